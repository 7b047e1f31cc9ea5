import Derived.Test.YtggehhlobjjmpaaRe
import Derived.Test.YtggehhlobjjmpaaOy
set_option linter.unusedVariables false
set_option linter.unusedSimpArgs false
namespace Go.Proofs.Ytggehhlobjjmpaa
open Go.RowKit

def SQ (q : World → Prop) (l : Nat) (W : World) : Prop := l = 0 ∨ q W
theorem sq_anti (q : World → Prop) (m n : Nat) (W : World) (h : m ≤ n) (k : SQ q n W) : SQ q m W := by
  rcases k with k | k
  · exact .inl (by omega)
  · exact .inr k
theorem sq_of {q : World → Prop} {W : World} {l : Nat} {C : World → Prop} (h : SZ (SQ q) 0 (l + 1) C W) : q W := by
  rcases h with h | h
  · cases h
  · exact h
theorem sq0 {q : World → Prop} {C : World → Prop} : ∀ W, C W → SZ (SQ q) 0 0 C W := fun _ _ => .inl rfl
theorem sq1 {q : World → Prop} {l : Nat} {C : World → Prop} : ∀ W, q W → SZ (SQ q) 0 l C W := fun _ h => .inr h
theorem Blk.neT {w : World} {a b : Nat} {cs ds : List Value} {t t' : TypeId} (h : Blk w a cs t) (k : Blk w b ds t') (ht : t ≠ t') : a ≠ b := fun e => by
  unfold Blk at h k
  rw [e, k] at h
  simp only [Option.some.injEq, Obj.cells.injEq] at h
  exact ht h.2.1.symm
theorem Mp.neB {w : World} {a b : Nat} {cs : List Value} {t : TypeId} {E : List Me} {c : Nat} (h : Mp w a E c) (k : Blk w b cs t) : a ≠ b := fun e => by
  have := h.hp
  unfold Blk at k
  rw [e, k] at this
  cases this
theorem Ow.blk {e : TypeId} {k : Nat} {w : World} {v : Value} {l : List (List Value)} (h : Ow e k w v l) {b : Nat} (hb : v.ownBlock = some b) : ∃ cs, Blk w b cs e := by
  obtain ⟨_, ⟨rfl, _⟩ | ⟨g, cp, cur, rfl, _, hh, _⟩⟩ := h.row
  · cases hb
  · simp only [Value.ownBlock, Option.some.injEq] at hb
    subst hb
    exact ⟨cur.toList, by unfold Blk; simpa using hh⟩
theorem Ow.neB {e : TypeId} {k : Nat} {w : World} {v : Value} {l : List (List Value)} (h : Ow e k w v l) {a : Nat} {cs : List Value} {t : TypeId} (hB : Blk w a cs t) (ht : e ≠ t) : ∀ b, v.ownBlock = some b → b ≠ a := fun b hb => by
  obtain ⟨ds, hd⟩ := h.blk hb
  exact hd.neT hB ht
theorem Ow.neM {e : TypeId} {k : Nat} {w : World} {v : Value} {l : List (List Value)} (h : Ow e k w v l) {a : Nat} {E : List Me} {c : Nat} (hM : Mp w a E c) : ∀ b, v.ownBlock = some b → b ≠ a := fun b hb e => by
  obtain ⟨ds, hd⟩ := h.blk hb
  exact hM.neB hd e.symm
theorem lk_eq {E : List Me} {L : List Sk} (hp : (E.map Me.sk).Perm L) (hn : (E.map fun m => (m.t, m.n)).Nodup) (t n : Nat) : lkE E t n = lkL L t n := by
  cases hl : L.findIdx? (isP t n) with
  | none =>
    rw [lkL_none hl]
    refine lk_of_none fun m hm hh => ?_
    exact isP_no hl m.sk (hp.subset (List.mem_map.2 ⟨m, hm, rfl⟩)) ⟨hh.1.symm, hh.2.symm⟩
  | some i =>
    obtain ⟨s, hs, hk, hpp⟩ := lkL_some hl
    rw [hk]
    obtain ⟨m, hm, rfl⟩ := List.mem_map.1 (hp.symm.subset (List.mem_of_getElem? hs))
    have h1 := of_decide_eq_true hpp
    have := lk_mem hn hm
    rw [show m.t = t from h1.1, show m.n = n from h1.2] at this
    exact this
theorem adN_eq {E : List Me} {L : List Sk} (hp : (E.map Me.sk).Perm L) (hn : (E.map fun m => (m.t, m.n)).Nodup) {most t f m : Nat} (hE : E.length ≤ most) (hf : f < 4294967296) : adNL L most t f m = adN E most t f m := by
  have hl : L.length = E.length := by rw [← hp.length_eq, List.length_map]
  have ht : takenL L t f m = takenB E t f m := by
    unfold takenL takenB
    congr 1
    funext i
    rw [lk_eq hp hn]
  unfold adNL adN
  by_cases h0 : m = 0
  · subst h0
    rw [if_pos rfl, if_neg (by omega), if_neg (by unfold takenB; simp), if_neg (by omega)]
  · rw [if_neg h0, ht, hl]
theorem del_perm {E : List Me} {L : List Sk} (hp : (E.map Me.sk).Perm L) (t n : Nat) : ((delE E t n).map Me.sk).Perm (delL L t n) := by
  have h1 := hp.filter (fun s => !isP t n s)
  rw [List.filter_map] at h1
  have e : (E.filter ((fun s => !isP t n s) ∘ Me.sk)) = delE E t n := by
    unfold delE
    apply List.filter_congr
    intro m _
    show (!isP t n m.sk) = _
    unfold isP
    congr 1
    apply decide_eq_decide.2
    show (m.t = t ∧ m.n = n) ↔ _
    constructor
    · exact fun h => ⟨h.1.symm, h.2.symm⟩
    · exact fun h => ⟨h.1.symm, h.2.symm⟩
  rw [e] at h1
  exact h1
/-- The desk: a table beside the document's. -/
structure Ds (w0 : World) (dk p r q : Nat) (v : Value) (most : Nat) (E : List Me) (c : Nat) (L : List Sk) (W : World) : Prop where
  bl : Blk W dk [.pointer (some ⟨p, 0, none⟩), .pointer (some ⟨q, 0, none⟩)] 52
  tb : Tb W p r most E c
  rt : Rt W q v most L
  pm : (E.map Me.sk).Perm L
  lt : L.Pairwise Lt
  le : E.length ≤ most
  mo : most ≤ 256
  lo : w0.heap.size ≤ dk ∧ w0.heap.size ≤ p ∧ w0.heap.size ≤ r ∧ w0.heap.size ≤ q
  lv : ∀ b, v.ownBlock = some b → w0.heap.size ≤ b
  be : Below w0.heap.size w0 W
theorem Ds.on {w0 : World} {dk p r q : Nat} {v : Value} {most : Nat} {E : List Me} {c : Nat} {L : List Sk} {W W' : World} (h : Ds w0 dk p r q v most E c L W) (hb : Below W.heap.size W W') : Ds w0 dk p r q v most E c L W' := ⟨h.bl.on hb, h.tb.on hb, h.rt.on hb, h.pm, h.lt, h.le, h.mo, h.lo, h.lv, bt h.be hb⟩
theorem Ds.fx {w0 : World} {dk p r q g : Nat} {v : Value} {most : Nat} {E : List Me} {c : Nat} {L : List Sk} {W W' : World} (h : Ds w0 dk p r q v most E c L W) (f : Fx (fun k => k = g) W W') (hg : dk ≠ g ∧ p ≠ g ∧ r ≠ g ∧ q ≠ g) (hv : ∀ b, v.ownBlock = some b → b ≠ g) (h0 : w0.heap.size ≤ g) : Ds w0 dk p r q v most E c L W' := ⟨h.bl.fx f hg.1, h.tb.fx f hg.2.1 hg.2.2.1, h.rt.fx f hg.2.2.2 (fun b hb e => hv b hb e), h.pm, h.lt, h.le, h.mo, h.lo, h.lv, bfx h.be f h0⟩
theorem Ds.ne {w0 : World} {dk p r q : Nat} {v : Value} {most : Nat} {E : List Me} {c : Nat} {L : List Sk} {W : World} (h : Ds w0 dk p r q v most E c L W) : dk ≠ r ∧ dk ≠ q ∧ dk ≠ p ∧ p ≠ q ∧ r ≠ q ∧ p ≠ r ∧ (∀ b, v.ownBlock = some b → b ≠ dk ∧ b ≠ p ∧ b ≠ r ∧ b ≠ q) :=
  ⟨fun e => h.tb.mp.neB h.bl e.symm, h.bl.neT h.rt.bl (by decide), h.bl.neT h.tb.bl (by decide), h.tb.bl.neT h.rt.bl (by decide), h.tb.mp.neB h.rt.bl, h.tb.ne, fun b hb => ⟨h.rt.so.ow.neB h.bl (by decide) b hb, h.rt.so.ow.neB h.tb.bl (by decide) b hb, h.rt.so.ow.neM h.tb.mp b hb, h.rt.so.ow.neB h.rt.bl (by decide) b hb⟩⟩
theorem Ds.Ll {w0 : World} {dk p r q : Nat} {v : Value} {most : Nat} {E : List Me} {c : Nat} {L : List Sk} {W : World} (h : Ds w0 dk p r q v most E c L W) : L.length = E.length ∧ L.length ≤ 256 := by
  have h1 := h.pm.length_eq
  rw [List.length_map] at h1
  have h2 := h.le
  have h3 := h.mo
  omega
theorem g52_0 (q : Nat) (W : World) : (Instr.fieldAt 52 (.pointer (some ⟨q, 0, none⟩)) 0).run Try.prog W = .ok (.pointer (some ⟨q, 0, none⟩)) W := by go_simp
theorem g52_1 (q : Nat) (W : World) : (Instr.fieldAt 52 (.pointer (some ⟨q, 0, none⟩)) 1).run Try.prog W = .ok (.pointer (some ⟨q, 1, none⟩)) W := by go_simp
theorem f55_0 (q : Nat) (W : World) : (Instr.fieldAt 55 (.pointer (some ⟨q, 0, none⟩)) 0).run Try.prog W = .ok (.pointer (some ⟨q, 0, none⟩)) W := by go_simp
theorem f55_1 (q : Nat) (W : World) : (Instr.fieldAt 55 (.pointer (some ⟨q, 0, none⟩)) 1).run Try.prog W = .ok (.pointer (some ⟨q, 1, none⟩)) W := by go_simp
theorem f55_2 (q : Nat) (W : World) : (Instr.fieldAt 55 (.pointer (some ⟨q, 0, none⟩)) 2).run Try.prog W = .ok (.pointer (some ⟨q, 2, none⟩)) W := by go_simp
theorem f55_3 (q : Nat) (W : World) : (Instr.fieldAt 55 (.pointer (some ⟨q, 0, none⟩)) 3).run Try.prog W = .ok (.pointer (some ⟨q, 3, none⟩)) W := by go_simp
theorem ldP24 {W : World} {d j : Nat} {cs : List Value} {t : TypeId} {a : Addr} (hb : Blk W d cs t) (hv : cs[j]? = some (.pointer (some a))) : (Instr.loadAt 24 (.pointer (some ⟨d, j, none⟩))).run Try.prog W = .ok (.pointer (some a)) W := by
  have h : W.cell? ⟨d, j, none⟩ = some (.pointer (some a)) := by rw [hb.cell]; exact hv
  go_simp
theorem ldP45 {W : World} {d j : Nat} {cs : List Value} {t : TypeId} {a : Addr} (hb : Blk W d cs t) (hv : cs[j]? = some (.pointer (some a))) : (Instr.loadAt 45 (.pointer (some ⟨d, j, none⟩))).run Try.prog W = .ok (.pointer (some a)) W := by
  have h : W.cell? ⟨d, j, none⟩ = some (.pointer (some a)) := by rw [hb.cell]; exact hv
  go_simp
theorem ldS22 {W : World} {d j : Nat} {cs : List Value} {t : TypeId} {v : Value} (hb : Blk W d cs t) (hv : cs[j]? = some v) (hs : ∃ ao n c, v = .slice ao n c) : (Instr.loadAt 22 (.pointer (some ⟨d, j, none⟩))).run Try.prog W = .ok v W := by
  have h : W.cell? ⟨d, j, none⟩ = some v := by rw [hb.cell]; exact hv
  obtain ⟨ao, n, c, rfl⟩ := hs
  go_simp
theorem stP24 {w : World} {d : Nat} {a : Value} {b : Value} (hb : Blk w d [a, b] 52) (p : Nat) : ∃ w', (Instr.storeAt 24 (.pointer (some ⟨d, 0, none⟩)) (.pointer (some ⟨p, 0, none⟩))).run Try.prog w = .ok () w' ∧ Blk w' d [.pointer (some ⟨p, 0, none⟩), b] 52 ∧ Fx (fun k => k = d) w w' := by
  have h1 : w.cell? ⟨d, 0, none⟩ = some a := by rw [hb.cell]; rfl
  have hf := hb.frozen 0
  refine ⟨w.setCell ⟨d, 0, none⟩ (.pointer (some ⟨p, 0, none⟩)), ?_, hb.set 0 _, Fx.setCell (S := fun k => k = d) _ _ _ _ rfl⟩
  go_simp
/-- A step of the script. -/
def opC (kd : Int) (t n : Nat) (kw : Value) : List Value := [.int .i64 kd, u32v t, u32v n, kw]
def opV (kd : Int) (t n : Nat) (kw : Value) : Value := .agg (opC kd t n kw).toArray
theorem box55 (kd : Int) (t n : Nat) (kw : Value) (w : World) : ∃ w1 q, (Instr.box 55 (opV kd t n kw)).run Try.prog w = .ok (.pointer (some ⟨q, 0, none⟩)) w1 ∧ Blk w1 q (opC kd t n kw) 55 ∧ Below w.heap.size w w1 ∧ q = w.heap.size := ⟨_, _, run_boxR 55 _ w _ rfl, Blk.new _ _ _, below_new _ _, rfl⟩
/-- A call that turns one block alone, from any world over w1. -/
structure Cl (w1 : World) (g : Nat) (f : FuncId) (args : List Value) (ans : Value) (X : World → Prop) : Prop where
  fx : ∀ W, X W → Fx (fun k => k = g) w1 W
  on : ∀ W W', X W → Below W.heap.size W W' → X W'
  st : ∀ W W' q cs, w1.heap.size ≤ q → Blk W q cs 29 → X W → Fx (fun k => k = q) W W' → X W'
  cl : ∀ W, Below w1.heap.size w1 W → Calls Try.prog f args.toArray W (fun e w' => e = .returned ans ∧ X w' ∧ Fx (fun k => k = g) W w')
  gl : g < w1.heap.size
theorem ZE.newW {n : Nat} {ops : Array Oper} {S : Nat → World → Prop} {K : List (Nat × Value) → (World → Prop) → Prop} {i lv : Nat} {ty : TypeId} {ps : String} {af : Array Edge} {gd : Option (Nat × Bool)} {r : List (Oper × Nat × Nat)} {e : List (Nat × Value)} {C : World → Prop} {t : TypeId} (C' : Value → World → Prop) (hw : wantE ops e ⟨some i, .alloc t, ty, ps, af, gd⟩ = some true) (hi : decide (i < n) = true) (h1 : ∀ v w, C' v w → S lv w) (hr : ∀ w, C w → ∃ v w', (Instr.alloc t true (.tuple #[])).run Try.prog w = .ok v w' ∧ C' v w') (k : ∀ v, (∃ w, C' v w) → wpZE Try.prog n ops S K r ((i, v) :: e) (C' v)) : wpZE Try.prog n ops S K ((⟨some i, .alloc t, ty, ps, af, gd⟩, 1, lv) :: r) e C :=
  ZE.eff C' hw hi h1 (fun W hW => by
    obtain ⟨v, w', h2, h3⟩ := hr W hW
    exact ⟨v, w', fun a ha => by simp [execOp, h2, Result.andThen], h3⟩) k
end Go.Proofs.Ytggehhlobjjmpaa
