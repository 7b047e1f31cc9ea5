import Derived.Test.YthfcabhelldokaaMt
import Derived.Test.YthfcabhelldokaaChn
set_option linter.unusedVariables false
set_option linter.unusedSimpArgs false
namespace Go.Proofs.Ythfcabhelldokaa
open Go.RowKit

/-- The blocks of a book. -/
def bkF (pv : Nat) (vi vl : Value) (gs : List Nat) (k : Nat) : Prop := k = pv ∨ vi.ownBlock = some k ∨ vl.ownBlock = some k ∨ k ∈ gs
theorem Bk.fx {S : Nat → Prop} {W W' : World} {pv p : Nat} {vi vl : Value} {ims : List ByteArray} {gs : List Nat} {pen : List (Nat × List UInt8)} (h : Bk W pv p vi vl ims gs pen) (hf : Fx S W W') (hd : ∀ k, bkF pv vi vl gs k → ¬ S k) : Bk W' pv p vi vl ims gs pen :=
  ⟨h.bl.fx hf (hd _ (.inl rfl)), ownsRow_fx h.im hf (fun k hk => hd k (.inr (.inl hk))), h.four, ownsRow_fx h.pl hf (fun k hk => hd k (.inr (.inr (.inl hk)))), fun k g x h1 h2 => (h.bys k g x h1 h2).fx hf (hd g (.inr (.inr (.inr (List.mem_of_getElem? h1))))), h.gsl, h.sec, h.few⟩
theorem Bk.lt {W : World} {pv p : Nat} {vi vl : Value} {ims : List ByteArray} {gs : List Nat} {pen : List (Nat × List UInt8)} (h : Bk W pv p vi vl ims gs pen) (k : Nat) (hk : bkF pv vi vl gs k) : k < W.heap.size := by
  rcases hk with rfl | hk | hk | hk
  · exact h.bl.lt
  · exact ownsRow_lt h.im k hk
  · exact ownsRow_lt h.pl k hk
  · obtain ⟨j, hj, e⟩ := List.mem_iff_getElem.1 hk
    have hj2 : j < pen.length := by rw [← h.gsl]; exact hj
    exact (h.bys j k pen[j] (by rw [List.getElem?_eq_getElem hj, e]) (List.getElem?_eq_getElem hj2)).lt
/-- A book beside its device, both of the call's own. -/
structure Kp (w W : World) (pv : Nat) (L : Lay) (vi vl : Value) (gs : List Nat) (D : Dv) (ims : List ByteArray) (pen : List (Nat × List UInt8)) : Prop where
  mine : Mine w W L D
  bk : Bk W pv L.p vi vl ims gs pen
  lo : ∀ k, bkF pv vi vl gs k → w.heap.size ≤ k ∧ ¬ L.F k
  pi : vi.ownBlock ≠ some pv
  pl : vl.ownBlock ≠ some pv
  il : ∀ k, vi.ownBlock = some k → vl.ownBlock ≠ some k
  gn : ∀ g ∈ gs, g ≠ pv ∧ vi.ownBlock ≠ some g ∧ vl.ownBlock ≠ some g
theorem Kp.turn {w W W' : World} {pv : Nat} {L L' : Lay} {vi vl : Value} {gs : List Nat} {D D' : Dv} {ims : List ByteArray} {pen : List (Nat × List UInt8)} (h : Kp w W pv L vi vl gs D ims pen) (ht : Turn W W' L L') (hd : Dev W' L' D') : Kp w W' pv L' vi vl gs D' ims pen :=
  ⟨h.mine.turn ht hd, by rw [ht.p]; exact h.bk.fx ht.fx (fun k hk => (h.lo k hk).2), fun k hk => ⟨(h.lo k hk).1, fun hF => by
    rcases ht.own k hF with h1 | h1
    · exact (h.lo k hk).2 h1
    · have := h.bk.lt k hk; omega⟩, h.pi, h.pl, h.il, h.gn⟩
theorem Kp.below {w W W' : World} {pv : Nat} {L : Lay} {vi vl : Value} {gs : List Nat} {D : Dv} {ims : List ByteArray} {pen : List (Nat × List UInt8)} (h : Kp w W pv L vi vl gs D ims pen) (hb : Below W.heap.size W W') : Kp w W' pv L vi vl gs D ims pen :=
  ⟨h.mine.below hb, h.bk.below hb, h.lo, h.pi, h.pl, h.il, h.gn⟩
theorem Kp.only {w W W' : World} {pv : Nat} {L : Lay} {vi vl : Value} {gs : List Nat} {D : Dv} {ims : List ByteArray} {pen : List (Nat × List UInt8)} (h : Kp w W pv L vi vl gs D ims pen) {S : Nat → Prop} (hf : Fx S W W') (hS : ∀ k, S k → w.heap.size ≤ k ∧ ¬ L.F k) : Mine w W' L D :=
  ⟨h.mine.dev.fx hf (fun k hk s => (hS k s).2 hk), h.mine.be.trans (hf.below (fun k hk s => by have := (hS k s).1; omega) h.mine.be.size), h.mine.own⟩
theorem st9 {ad : Addr} {u : Value} {s : ByteArray} {W : World} (h : W.cell? ad = some u) (hf : W.frozen? ad = false) : (Instr.storeAt 9 (.pointer (some ad)) (.string s)).run Try.prog W = .ok () (W.setCell ad (.string s)) := by go_simp
theorem st30 {ao : Option Addr} {b : Addr} {u : Value} {l c : Nat} {W : World} (h : W.cell? b = some u) (hf : W.frozen? b = false) : (Instr.storeAt 30 (.pointer (some b)) (.slice ao l c)).run Try.prog W = .ok () (W.setCell b (.slice ao l c)) := by go_simp
theorem own_frozen {w : World} {e size : Nat} {v : Value} {n : Nat} {xs : List Value} (h : w.ownsRow 0 e size v n xs) (g : Nat) (hg : v.ownBlock = some g) (k : Nat) : w.frozen? ⟨g, k, none⟩ = false := by
  obtain ⟨h1, ⟨rfl, _⟩ | ⟨g', cap, cur, rfl, _, hh, r⟩⟩ := h
  · simp [Value.ownBlock] at hg
  · obtain rfl : g' = g := by simpa [Value.ownBlock] using hg
    simp [World.frozen?, hh]
/-- A durable sector is written down. -/
theorem Kp.setIm {w W : World} {pv : Nat} {L : Lay} {vi vl : Value} {gs : List Nat} {D : Dv} {ims : List ByteArray} {pen : List (Nat × List UInt8)} (h : Kp w W pv L vi vl gs D ims pen) (k : Nat) (hk : k < 4) (s : ByteArray) :
    ∃ g u, vi.ownBlock = some g ∧ (∀ V, (Instr.indexAt 29 vi (.int .i64 (k : Int))).run Try.prog V = .ok (.pointer (some ⟨g, k, none⟩)) V) ∧ W.cell? ⟨g, k, none⟩ = some u ∧ W.frozen? ⟨g, k, none⟩ = false ∧ Kp w (W.setCell ⟨g, k, none⟩ (.string s)) pv L vi vl gs D (ims.set k s) pen := by
  have hk4 : k < ims.length := by rw [h.bk.four]; exact hk
  obtain ⟨g, hg, hx, hc⟩ := im_item h.bk.im k ims[k] (List.getElem?_eq_getElem hk4)
  refine ⟨g, _, hg, hx, hc, own_frozen h.bk.im g hg k, ?_⟩
  have hf : Fx (fun j => j = g) W (W.setCell ⟨g, k, none⟩ (.string s)) := Fx.setCell W g k _ rfl
  have hno := h.lo g (.inr (.inl hg))
  refine ⟨h.only hf (fun j e => by rw [e]; exact hno), ?_, h.lo, h.pi, h.pl, h.il, h.gn⟩
  refine ⟨h.bk.bl.fx hf (fun e => h.pi (by rw [e]; exact hg)), ?_, by simp [h.bk.four], ownsRow_fx h.bk.pl hf (fun j hj e => h.il g hg (by rw [← e]; exact hj)), fun j gb x h1 h2 => (h.bk.bys j gb x h1 h2).fx hf (fun e => (h.gn gb (List.mem_of_getElem? h1)).2.1 (by rw [e]; exact hg)), h.bk.gsl, h.bk.sec, h.bk.few⟩
  have hi := h.bk.im
  obtain ⟨h0, ⟨rfl, hn⟩ | ⟨g', cap, cur, rfl, hg', hh, hn, hcp, hs, ht⟩⟩ := hi
  · simp [Value.ownBlock] at hg
  · obtain rfl : g' = g := by simpa [Value.ownBlock] using hg
    refine ⟨by simp, .inr ⟨g', cap, cur.setIfInBounds k (.string s), by rw [List.length_set], Nat.zero_le _, heap_setCell_same _ _ _ _ _ _ hh, by rw [List.length_set]; exact hn, hcp, by rw [Array.size_setIfInBounds]; exact hs, ?_⟩⟩
    rw [Array.toList_setIfInBounds, List.length_set, List.take_set, ht, List.map_set]
/-- The list is emptied. -/
theorem Kp.noList {w W : World} {pv : Nat} {L : Lay} {vi vl : Value} {gs : List Nat} {D : Dv} {ims : List ByteArray} {pen : List (Nat × List UInt8)} (h : Kp w W pv L vi vl gs D ims pen) : Kp w (W.setCell ⟨pv, 2, none⟩ (.slice none 0 0)) pv L vi (.slice none 0 0) [] D ims [] := by
  have hf : Fx (fun j => j = pv) W (W.setCell ⟨pv, 2, none⟩ (.slice none 0 0)) := Fx.setCell W pv 2 _ rfl
  have hno := h.lo pv (.inl rfl)
  refine ⟨h.only hf (fun j e => by rw [e]; exact hno), ⟨?_, ownsRow_fx h.bk.im hf (fun j hj e => h.pi (by rw [← e]; exact hj)), h.bk.four, World.ownsRow_nil _ _ _ _, fun j g x h1 _ => by simp at h1, rfl, fun x hx => by simp at hx, by simp⟩, fun k hk => ?_, h.pi, by simp [Value.ownBlock], fun k _ => by simp [Value.ownBlock], fun g hg => by simp at hg⟩
  · have := Blk.setCells [.slice none 0 0] 2 W _ h.bk.bl (by simp [lifeC])
    exact this
  · rcases hk with hk | hk | hk | hk
    · exact h.lo k (.inl hk)
    · exact h.lo k (.inr (.inl hk))
    · simp [Value.ownBlock] at hk
    · simp at hk
/-- A pending write is noted. -/
theorem Kp.push {w W : World} {pv : Nat} {L : Lay} {vi vl : Value} {gs : List Nat} {D : Dv} {ims : List ByteArray} {pen : List (Nat × List UInt8)} (h : Kp w W pv L vi vl gs D ims pen) (hl : pen.length < 1000000) (i gb : Nat) (b : List UInt8) (hb : b.length = 512) (hB : Blk W gb (b.map byt) 5) (hlo : w.heap.size ≤ gb) (hLn : ¬ L.F gb) (hpn : gb ≠ pv) (hin : vi.ownBlock ≠ some gb) (hln : vl.ownBlock ≠ some gb) (ty : TypeId) :
    ∃ w1 ao ln cp w2, (Instr.buildSlice 30 1 #[(0, .agg (pwC i (bV gb)).toArray)]).run Try.prog W = .ok (.slice (some ⟨W.heap.size, 0, none⟩) 1 1) w1 ∧ (Builtin.append_ #[30, 30] ty #[vl, .slice (some ⟨W.heap.size, 0, none⟩) 1 1]).run Try.prog w1 = .ok (.slice ao ln cp) w2 ∧ w2.cell? ⟨pv, 2, none⟩ = some vl ∧ w2.frozen? ⟨pv, 2, none⟩ = false ∧ Fx (fun k => vl.ownBlock = some k) W w2 ∧ Kp w (w2.setCell ⟨pv, 2, none⟩ (.slice ao ln cp)) pv L vi (.slice ao ln cp) (gs ++ [gb]) D ims (pen ++ [(i, b)]) := by
  have be1 : Below W.heap.size W (W.alloc (.cells (pwC i (bV gb)).toArray 78)) := below_new _ _
  have h1 := h.below be1
  have hB1 := hB.on be1
  have hP : Blk (W.alloc (.cells (pwC i (bV gb)).toArray 78)) W.heap.size (pwC i (bV gb)) 78 := Blk.new _ _ _
  obtain ⟨v', w2, hr, ho, hg, hn⟩ := run_app30 _ vl _ _ h1.bk.pl W.heap.size i gb hP (by omega) ty
  have hsz : W.heap.size < (W.alloc (.cells (pwC i (bV gb)).toArray 78)).heap.size := by simp
  obtain ⟨w1, hw1⟩ : ∃ w1, W.alloc (.cells (pwC i (bV gb)).toArray 78) = w1 := ⟨_, rfl⟩
  have hbs := bs30 i gb W
  rw [hw1] at be1 h1 hB1 hr hg hn hsz hbs
  clear hP hw1
  have f := grown_fx hg
  obtain ⟨ao, ln, cp, rfl⟩ := own_shape ho
  refine ⟨w1, ao, ln, cp, w2, hbs, hr, ?_, Blk.frozen (h1.bk.bl.fx f (fun e => h.pl e)) 2, (Fx.of_below be1).and f, ?_⟩
  · exact f.cell ((h1.bk.bl.cell 2).trans rfl) (fun e => h.pl e)
  · have hvl : ∀ k, Value.ownBlock (.slice ao ln cp) = some k → w.heap.size ≤ k ∧ ¬ L.F k ∧ k ≠ pv ∧ vi.ownBlock ≠ some k ∧ k ∉ gs ++ [gb] := by
      intro k hk
      rcases hn k hk with e | e
      · have := h.lo k (.inr (.inr (.inl e)))
        exact ⟨this.1, this.2, fun e2 => h.pl (by rw [← e2]; exact e), fun e2 => h.il k e2 e, fun hm => by
          rcases List.mem_append.1 hm with hm | hm
          · exact (h.gn k hm).2.2 e
          · exact hln (by rw [← List.mem_singleton.1 hm]; exact e)⟩
      · have hlt := fun j hj => h.bk.lt j hj
        refine ⟨by have := h.mine.be.size; omega, fun hF => ?_, fun e2 => ?_, fun e2 => ?_, fun hm => ?_⟩
        · have := h.mine.dev.lt k hF; omega
        · have := hlt k (.inl e2); omega
        · have := hlt k (.inr (.inl e2)); omega
        · rcases List.mem_append.1 hm with hm | hm
          · have := hlt k (.inr (.inr (.inr hm))); omega
          · have := hB.lt; rw [← List.mem_singleton.1 hm] at this; omega
    have m2 : Mine w w2 L D := h1.only f (fun k e => h.lo k (.inr (.inr (.inl e))))
    have hf : Fx (fun j => j = pv) w2 (w2.setCell ⟨pv, 2, none⟩ (.slice ao ln cp)) := Fx.setCell w2 pv 2 _ rfl
    have hno := h.lo pv (.inl rfl)
    have hgs : ∀ g ∈ gs ++ [gb], g ≠ pv ∧ vi.ownBlock ≠ some g := fun g hm => by
      rcases List.mem_append.1 hm with hm | hm
      · exact ⟨(h.gn g hm).1, (h.gn g hm).2.1⟩
      · rw [List.mem_singleton.1 hm]; exact ⟨hpn, hin⟩
    have bl2 : Blk w2 pv (lifeC L.p vi vl) 32 := h1.bk.bl.fx f (fun e => h.pl e)
    refine ⟨⟨m2.dev.fx hf (fun k hk e => hno.2 (by rw [← e]; exact hk)), m2.be.trans (hf.below (fun k hk e => by rw [e] at hk; have := hno.1; omega) m2.be.size), m2.own⟩, ⟨?_, ?_, h.bk.four, ?_, ?_, by simp [h.bk.gsl], ?_, by simp; omega⟩, ?_, h.pi, fun e => (hvl pv e).2.2.1 rfl, fun k h1 h2 => (hvl k h2).2.2.2.1 h1, fun g hm => ⟨(hgs g hm).1, (hgs g hm).2, fun e => (hvl g e).2.2.2.2 hm⟩⟩
    · exact Blk.setCells [.slice ao ln cp] 2 w2 _ bl2 (by simp [lifeC])
    · exact ownsRow_fx (ownsRow_fx h1.bk.im f (fun k hk e => h.il k hk e)) hf (fun k hk e => h.pi (by rw [← e]; exact hk))
    · have := ownsRow_fx ho hf (fun k hk e => (hvl k hk).2.2.1 e)
      rw [penC_snoc _ _ _ _ h.bk.gsl, List.length_append]
      exact this
    · intro k g x e1 e2
      have hm := List.mem_of_getElem? e1
      refine Blk.fx ?_ hf (fun e => (hgs g hm).1 e)
      rcases Nat.lt_or_ge k gs.length with hk | hk
      · rw [List.getElem?_append_left hk] at e1
        rw [List.getElem?_append_left (by rw [← h.bk.gsl]; exact hk)] at e2
        exact (h1.bk.bys k g x e1 e2).fx f (fun e => (h.gn g (List.mem_of_getElem? e1)).2.2 e)
      · rw [List.getElem?_append_right hk] at e1
        rw [List.getElem?_append_right (by rw [← h.bk.gsl]; exact hk)] at e2
        obtain ⟨hz, _⟩ := List.getElem?_eq_some_iff.1 e1
        have hz0 : k - gs.length = 0 := by simpa using hz
        have hz1 : k - pen.length = 0 := by rw [← h.bk.gsl]; exact hz0
        rw [hz0] at e1
        rw [hz1] at e2
        simp at e1 e2
        subst e1 e2
        exact hB1.fx f (fun e => hln e)
    · intro x hx
      rcases List.mem_append.1 hx with hx | hx
      · exact h.bk.sec x hx
      · rw [List.mem_singleton.1 hx]; exact hb
    · intro k hk
      rcases hk with hk | hk | hk | hk
      · exact h.lo k (.inl hk)
      · exact h.lo k (.inr (.inl hk))
      · exact ⟨(hvl k hk).1, (hvl k hk).2.1⟩
      · rcases List.mem_append.1 hk with hm | hm
        · exact h.lo k (.inr (.inr (.inr hm)))
        · rw [List.mem_singleton.1 hm]; exact ⟨hlo, hLn⟩
end Go.Proofs.Ythfcabhelldokaa

set_option linter.unusedVariables false
set_option linter.unusedSimpArgs false
namespace Go.Proofs.Ythfcabhelldokaa
open Go.RowKit

section
variable {P : Program} {n : Nat} {ops : Array Oper} {K : List (Nat × Value) → (World → Prop) → Prop} {i : Nat} {ty : TypeId} {ps : String} {af : Array Edge} {gd : Option (Nat × Bool)} {r : List (Oper × Bool)} {e : List (Nat × Value)} {S C : World → Prop} {w w1 : World}
/-- An operation that turns one world into one other. -/
theorem OE.eff {op : Op} {v : Value} (S' : World → Prop) (hw : wantE ops e ⟨some i, op, ty, ps, af, gd⟩ = some true) (hi : decide (i < n) = true) (h1 : S' w1) (h2 : ∀ W, S' W → S W) (hrun : ∀ a, Env n a e → (execOp a.eval ⟨some i, op, ty, ps, af, gd⟩).run P w = .ok (.value v) w1) (k : wpOrdE P n ops K r ((i, v) :: e) S' (fun W => W = w1)) : wpOrdE P n ops K ((⟨some i, op, ty, ps, af, gd⟩, true) :: r) e S (fun W => W = w) :=
  ⟨hw, fun j hj => by cases hj; exact of_decide_eq_true hi, v, S', fun W => W = w1, fun W hW => by rw [hW]; exact h1, h2, fun W hW a ha => by rw [hW]; exact .inl ⟨w1, hrun a ha, rfl⟩, k⟩
theorem OE.build2 {t : TypeId} {x y : Operand} {u u' v : Value} (S' : World → Prop) (hw : wantE ops e ⟨some i, .build t #[(0, x), (1, y)], ty, ps, af, gd⟩ = some true) (hi : decide (i < n) = true) (h1 : S' w) (h2 : ∀ W, S' W → S W) (hx : evE e x = some u) (hy : evE e y = some u') (hr : (Instr.build t #[(0, u), (1, u')]).run P w = .ok v w) (k : wpOrdE P n ops K r ((i, v) :: e) S' (fun W => W = w)) : wpOrdE P n ops K ((⟨some i, .build t #[(0, x), (1, y)], ty, ps, af, gd⟩, true) :: r) e S (fun W => W = w) :=
  OE.eff S' hw hi h1 h2 (fun a ha => by
    simp only [execOp, List.map_toArray, List.map_cons, List.map_nil, ha.ev hx, ha.ev hy, Sem.run_bind, hr, Result.andThen_ok, Sem.run_pure]) k
theorem OE.bsl {t : TypeId} {m : Nat} {x : Operand} {u v : Value} (S' : World → Prop) (hw : wantE ops e ⟨some i, .buildSlice t m #[(0, x)], ty, ps, af, gd⟩ = some true) (hi : decide (i < n) = true) (h1 : S' w1) (h2 : ∀ W, S' W → S W) (hx : evE e x = some u) (hr : (Instr.buildSlice t m #[(0, u)]).run P w = .ok v w1) (k : wpOrdE P n ops K r ((i, v) :: e) S' (fun W => W = w1)) : wpOrdE P n ops K ((⟨some i, .buildSlice t m #[(0, x)], ty, ps, af, gd⟩, true) :: r) e S (fun W => W = w) :=
  OE.eff S' hw hi h1 h2 (fun a ha => by
    simp only [execOp, List.map_toArray, List.map_cons, List.map_nil, ha.ev hx, Sem.run_bind, hr, Result.andThen_ok, Sem.run_pure]) k
theorem OE.app {t : TypeId} {x y : Operand} {u u' v : Value} (S' : World → Prop) (hw : wantE ops e ⟨some i, .call { callee := .builtin .append, args := #[x, y], argTypes := #[t, t] }, ty, ps, af, gd⟩ = some true) (hi : decide (i < n) = true) (h1 : S' w1) (h2 : ∀ W, S' W → S W) (hx : evE e x = some u) (hy : evE e y = some u') (hr : (Builtin.append_ #[t, t] ty #[u, u']).run P w = .ok v w1) (k : wpOrdE P n ops K r ((i, v) :: e) S' (fun W => W = w1)) : wpOrdE P n ops K ((⟨some i, .call { callee := .builtin .append, args := #[x, y], argTypes := #[t, t] }, ty, ps, af, gd⟩, true) :: r) e S (fun W => W = w) :=
  OE.eff S' hw hi h1 h2 (fun a ha => by simp [execOp, resolve, invoke, builtin, ha.ev hx, ha.ev hy, hr, Result.andThen]) k
theorem OE.store {t : TypeId} {x y : Operand} {u u' : Value} (S' : World → Prop) (hw : wantE ops e ⟨none, .store t x y, ty, ps, af, gd⟩ = some true) (h1 : S' w1) (h2 : ∀ W, S' W → S W) (hx : evE e x = some u) (hy : evE e y = some u') (hr : (Instr.storeAt t u u').run P w = .ok () w1) (k : wpOrdE P n ops K r e S' (fun W => W = w1)) : wpOrdE P n ops K ((⟨none, .store t x y, ty, ps, af, gd⟩, true) :: r) e S (fun W => W = w) :=
  ⟨hw, fun j hj => (by cases hj), undef, S', fun W => W = w1, fun W hW => by rw [hW]; exact h1, h2, fun W hW a ha => hW ▸ .inr (.inl ⟨rfl, w1, (by simp [execOp, ha.ev hx, ha.ev hy, hr, Result.andThen]), rfl⟩), k⟩
theorem OE.len {t : TypeId} {x : Operand} {u v : Value} (hw : wantE ops e ⟨some i, .call { callee := .builtin .len, args := #[x], argTypes := #[t] }, ty, ps, af, gd⟩ = some true) (hi : decide (i < n) = true) (hx : evE e x = some u) (hr : ∀ w, (Builtin.len_ #[t] ty #[u]).run P w = .ok v w) (k : wpOrdE P n ops K r ((i, v) :: e) S C) : wpOrdE P n ops K ((⟨some i, .call { callee := .builtin .len, args := #[x], argTypes := #[t] }, ty, ps, af, gd⟩, false) :: r) e S C :=
  OE.val hw hi (fun a ha W hW => by simp [execOp, resolve, invoke, builtin, ha.ev hx, hr W, Result.andThen]) k
/-- A call from one world to one other. -/
theorem OE.callW {f : FuncId} {xs : List Operand} {ts : Array TypeId} (args : List Value) (v : Value) (S' : World → Prop) (hen : ∀ (args : Array Value) (W : World), (callFunc f args).run P W = .ok (.enter f args) W)
    (hw : wantE ops e ⟨some i, .call { callee := .value (.func f), args := xs.toArray, argTypes := ts }, ty, ps, af, gd⟩ = some true) (hi : decide (i < n) = true) (hx : xs.map (evE e) = args.map some) (h1 : S' w1) (h2 : ∀ W, S' W → S W) (hc : Calls P f args.toArray w (fun x w' => x = .returned v ∧ w' = w1))
    (k : wpOrdE P n ops K r ((i, v) :: e) S' (fun W => W = w1)) : wpOrdE P n ops K ((⟨some i, .call { callee := .value (.func f), args := xs.toArray, argTypes := ts }, ty, ps, af, gd⟩, true) :: r) e S (fun W => W = w) :=
  OE.call args v S' (fun W => W = w1) hen hw hi hx (fun W hW => by rw [hW]; exact h1) h2 (fun W hW => by rw [hW]; exact hc) k
end
section
variable {P : Program} {N : Nat} {ops : Array Oper} {Q : Exit → Act → World → Prop}
theorem wpSteps_of_E {K : Act → (World → Prop) → Prop} {S0 : World → Prop} : ∀ (l : List Oper) (e : List (Nat × Value)) (S C : World → Prop) (a : Act), (∀ w, S w → S0 w) → Env N a e → l.all (fun o => o.guard.isNone) = true → wpOrdE P N ops (fun e' C' => ∀ a', Env N a' e' → K a' C') (l.map fun o => (o, true)) e S C → wpSteps P S0 K l a C
  | [], e, S, C, a, _, ha, _, h => h a ha
  | o :: l, e, S, C, a, hS, ha, hg, h => by
    obtain ⟨hw, hd, v, S', C', h1, h2, h3, h⟩ := h
    simp only [List.all_cons, Bool.and_eq_true] at hg
    exact ⟨by simpa using hg.1, v, C', fun w hw => hS w (h2 w (h1 w hw)), fun w hw => h3 w hw a ha, wpSteps_of_E l _ S' C' _ (fun w hw => hS w (h2 w hw)) (ha.ins o.dst v hd) hg.2 h⟩
theorem wpLexV_of_E {K : Act → (World → Prop) → Prop} {S : World → Prop} (l2 : List Oper) (hg : l2.all (fun o => o.guard.isNone) = true) : ∀ (l : List Oper) (e : List (Nat × Value)) (C : World → Prop) (a : Act), Env N a e → wpOrdE P N ops (fun e' C' => ∀ a', Env N a' e' → K a' C') (l.map (fun o => (o, false)) ++ l2.map fun o => (o, true)) e S C → wpLexV P ops S (fun a' => wpSteps P S K l2 a' C) l a
  | [], e, C, a, ha, h => wpSteps_of_E l2 e S C a (fun _ h => h) ha hg h
  | o :: l, e, C, a, ha, h => by
    obtain ⟨v, hd, hu, h⟩ := h
    exact ⟨v, hu a ha, wpLexV_of_E l2 hg l _ C _ (ha.ins o.dst v hd) h⟩
theorem wpOrdE_mono {K K' : List (Nat × Value) → (World → Prop) → Prop} (hK : ∀ e C, K e C → K' e C) : ∀ (l : List (Oper × Bool)) (e : List (Nat × Value)) (S C : World → Prop), wpOrdE P N ops K l e S C → wpOrdE P N ops K' l e S C
  | [], e, _, C, h => hK e C h
  | (o, false) :: r, e, S, C, ⟨v, h1, h2, h⟩ => ⟨v, h1, h2, wpOrdE_mono hK r _ S C h⟩
  | (o, true) :: r, e, S, C, ⟨h1, h2, v, S', C', h3, h4, h5, h⟩ => ⟨h1, h2, v, S', C', h3, h4, h5, wpOrdE_mono hK r _ S' C' h⟩
/-- A region that draws: n operations of one value, m that turn the world, the rest in its order. -/
theorem EW.chain {id : Nat} {l : List Oper} {e : List (Nat × Value)} {w : World} (n m r : Nat) (S : World → Prop) (hm : P.follows .mixedOrders = true) (hl : l.length = n + m + r)
    (hB : (Region.noSelect l.toArray && lexOk .any l.toArray (n + m) n 0 (none_ (n + m + r)) && chainOk .any l.toArray (n + m) m n (firstN n 0 (none_ (n + m + r))) && tailOk .any l.toArray r (n + m) (firstN m n (firstN n 0 (none_ (n + m + r))))) = true)
    (hS : S { w with drawn := w.drawn + 1 }) (hg : ((l.drop n).take m).all (fun o => o.guard.isNone) = true)
    (h : wpOrdE P N l.toArray (fun e' C' => ∀ W, C' W → WL P N l.toArray Q (l.drop (n + m)) e' W) ((l.take n).map (fun o => (o, false)) ++ ((l.drop n).take m).map fun o => (o, true)) e S (fun W => W = { w with drawn := w.drawn + 1 })) : EW P N (Code.region id l.toArray true) Q e w := fun a ha =>
  reg_chain S n m r hm hl hB hS (wpLexV_of_E _ hg (l.take n) e _ a ha (by
    refine wpOrdE_mono ?_ _ _ _ _ h
    exact fun e' C' hk a' ha' W hW => hk W hW a' ha'))
end
end Go.Proofs.Ythfcabhelldokaa
