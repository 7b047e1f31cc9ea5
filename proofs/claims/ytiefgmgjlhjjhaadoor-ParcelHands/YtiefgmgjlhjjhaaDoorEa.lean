import Derived.Test.YtiefgmgjlhjjhaaDoorDoG
set_option linter.unusedVariables false
set_option linter.unusedSimpArgs false
namespace Go.Proofs.YtiefgmgjlhjjhaaDoor
open Go.RowKit

attribute [local irreducible] sm sumOf cnt chk partB ptB lgL pM pI pN pA pS pC
/-- What bytes were read stays when 'append' puts some behind them. -/
theorem Ob.push_old {w w' : World} {b : Nat} {v v' pv : Value} {bs ys : List UInt8} (h : Ob w b v bs) (hp : Has w pv ys) (hl : bs.length + ys.length ≤ 1000000000) (ty : TypeId) (hr : (Builtin.append_ #[24, 24] ty #[v, pv]).run Tryd.prog w = .ok v' w') (ho : Has w' v' (bs ++ ys)) : Has w' v bs := by
  obtain ⟨i, hi, hz0, hz1, hz2⟩ := info_parts Tryd.info5
  rcases hp with ⟨rfl, rfl⟩ | ⟨ad, cap, rfl, h2, h3⟩
  · rw [run_append_owned_none (P := Tryd.prog) w 0 24 ty 5 i 1 Tryd.underlying24 hi v _ _ h.row] at hr
    simp only [Result.ok.injEq] at hr
    obtain ⟨rfl, rfl⟩ := hr
    exact h.has
  · have hnews : ∀ j u, (ys.map byt)[j]? = some u → w.cell? (ad.add j) = some u := fun j u hj => by
      rw [List.getElem?_map, Option.map_eq_some_iff] at hj
      obtain ⟨b', hb, rfl⟩ := hj
      exact h3 j b' hb
    have hown' := h.row
    obtain ⟨hx, ⟨rfl, hz0'⟩ | ⟨g, cp, cur, rfl, hg, hh2, hnc, hc, hs2, htk⟩⟩ := hown'
    · have : bs = [] := List.eq_nil_of_length_eq_zero hz0'
      subst this; exact Has.nil _
    · by_cases hroom : bs.length + ys.length ≤ cp
      · obtain ⟨w2, q1, _⟩ := run_append_fits (P := Tryd.prog) w 0 24 ty 5 i 1 Tryd.underlying24 hi hz1 g bs.length cp (bs.map byt) h.row ad ys.length cap (ys.map byt) (by simp) hnews (byt_one ys) hroom
        rw [hr] at q1
        simp only [Result.ok.injEq] at q1
        obtain ⟨rfl, rfl⟩ := q1
        rcases ho with ⟨e, _⟩ | ⟨ad', cap', e, e2, e3⟩
        · cases e
        · simp only [Value.slice.injEq, Option.some.injEq] at e
          obtain ⟨rfl, _, rfl⟩ := e
          refine .inr ⟨⟨g, 0, none⟩, cp, rfl, hnc, fun j u hj => e3 j u ?_⟩
          rw [List.getElem?_append_left (List.getElem?_eq_some_iff.1 hj).1]
          exact hj
      · have hcap2 := nextcap_le (bs.length + ys.length) cp (by omega)
        have hfit : Builtin.nextslicecap (bs.length + ys.length) cp * i.bytes ≤ 281474976710656 := by
          rw [hz2]; omega
        have q1 := run_append_grow (P := Tryd.prog) w 24 ty 5 i _ Tryd.underlying24 hi hz0 ⟨g, 0, none⟩ bs.length cp (bs.map byt) (by rw [hz1]; simp) (World.ownsRow.cells h.row (g := g) rfl) ad ys.length cap (ys.map byt) (by rw [hz1]; simp) hnews (by omega) (by omega) hfit
        rw [hr] at q1
        simp only [Result.ok.injEq] at q1
        obtain ⟨rfl, rfl⟩ := q1
        exact h.has.below (bt (below_drawn w) (below_new w.drew _))
/-- One byte of one part is written. -/
theorem Spl.setAt {W : World} {b g : Nat} {vs : List Value} {ls : List (List UInt8)} (h : Spl W b g vs ls) {k : Nat} {v : Value} {l : List UInt8} (hv : vs[k]? = some v) (hl : ls[k]? = some l) {i : Nat} (hi : i < l.length) (u : UInt8) : ∃ ad W', (∀ W, (Instr.indexAt 24 v (.int .i64 (i : Int))).run Tryd.prog W = .ok (.pointer (some ad)) W) ∧ (Instr.storeAt 5 (.pointer (some ad)) (byt u)).run Tryd.prog W = .ok () W' ∧ Spl W' b g vs (ls.set k (l.set i u)) ∧ Fx (fun q => v.ownBlock = some q) W W' := by
  obtain ⟨ad, W', h1, h2, h3, h4⟩ := (h.ob k v l hv hl).setAtF i hi u
  refine ⟨ad, W', h1, h2, ⟨h.bl.fx h4 (fun e => (h.ob k v l hv hl).neB h.bl (by decide) e), by rw [List.length_set]; exact h.ln, fun j v' l' hv' hl' => ?_, h.gb, h.ap, h.ag⟩, h4⟩
  by_cases hj : j = k
  · subst hj
    rw [hv] at hv'; cases hv'
    rw [List.getElem?_set_self (List.getElem?_eq_some_iff.1 hl).1] at hl'; cases hl'
    exact h3
  · rw [List.getElem?_set_ne (Ne.symm hj)] at hl'
    refine (h.ob j v' l' hv' hl').fx h4 (fun q hq e => ?_)
    rcases Nat.lt_or_gt_of_ne hj with hlt | hlt
    · have := h.ap j k v' v q q hlt hv' hv e hq; omega
    · have := h.ap k j v v' q q hlt hv hv' hq e; omega
/-- The second text's parts while they are written over: those ahead of k whole, of k the first i bytes. -/
structure BR (wA : World) (s2 s5 gb : Nat) (vb : List Value) (id : Nat) (T : List UInt8) (mark : Int) (k i : Nat) (ls : List (List UInt8)) (W : World) : Prop where
  sp : Spl W s2 gb vb ls
  fx : Fx (fun q => s2 ≤ q ∧ q < s5) wA W
  ll : ls.length = cnt T
  ln : ∀ (j : Nat) l, ls[j]? = some l → l.length = (ptB id T j).length
  dn : ∀ (j : Nat) l (t : Nat) u, ls[j]? = some l → l[t]? = some u → (j < k ∨ j = k ∧ t < i) → u = byZ (IntKind.i64.wrap (mark + (j : Int)))
  ub : ∀ (j : Nat) v q, vb[j]? = some v → v.ownBlock = some q → s2 ≤ q ∧ q < s5
section
variable {wA : World} {s2 s5 gb : Nat} {vb : List Value} {id : Nat} {T : List UInt8} {mark : Int} {k i : Nat} {ls : List (List UInt8)} {W : World}
theorem BR.get (h : BR wA s2 s5 gb vb id T mark k i ls W) {j : Nat} (hj : j < cnt T) : ∃ v l, vb[j]? = some v ∧ ls[j]? = some l ∧ W.cell? ⟨gb, j, none⟩ = some v ∧ Ob W s2 v l := by
  have h1 : j < ls.length := by rw [h.ll]; exact hj
  have h2 : j < vb.length := by rw [h.sp.ln]; exact h1
  have e1 := List.getElem?_eq_getElem h1
  have e2 := List.getElem?_eq_getElem h2
  exact ⟨_, _, e2, e1, (h.sp.bl.cell j).trans e2, h.sp.ob j _ _ e2 e1⟩
theorem BR.step (h : BR wA s2 s5 gb vb id T mark k i ls W) {v : Value} {l : List UInt8} (hv : vb[k]? = some v) (hl : ls[k]? = some l) (hi : i < l.length) : ∃ ad W', (∀ W, (Instr.indexAt 24 v (.int .i64 (i : Int))).run Tryd.prog W = .ok (.pointer (some ad)) W) ∧ (Instr.storeAt 5 (.pointer (some ad)) (byt (byZ (IntKind.i64.wrap (mark + (k : Int)))))).run Tryd.prog W = .ok () W' ∧ BR wA s2 s5 gb vb id T mark k (i + 1) (ls.set k (l.set i (byZ (IntKind.i64.wrap (mark + (k : Int)))))) W' := by
  obtain ⟨ad, W', h1, h2, h3, h4⟩ := h.sp.setAt hv hl hi (byZ (IntKind.i64.wrap (mark + (k : Int))))
  have hkl : k < ls.length := (List.getElem?_eq_some_iff.1 hl).1
  refine ⟨ad, W', h1, h2, h3, h.fx.trans h4 (fun q _ e => h.ub k v q hv e), by rw [List.length_set]; exact h.ll, fun j l' hl' => ?_, fun j l' t u hl' hu ho => ?_, h.ub⟩
  · by_cases hj : j = k
    · subst hj
      rw [List.getElem?_set_self hkl] at hl'; cases hl'
      rw [List.length_set]; exact h.ln j l hl
    · rw [List.getElem?_set_ne (Ne.symm hj)] at hl'
      exact h.ln j l' hl'
  · by_cases hj : j = k
    · subst hj
      rw [List.getElem?_set_self hkl] at hl'; cases hl'
      by_cases ht : t = i
      · subst ht
        rw [List.getElem?_set_self hi] at hu; cases hu; rfl
      · rw [List.getElem?_set_ne (Ne.symm ht)] at hu
        exact h.dn j l t u hl hu (by omega)
    · rw [List.getElem?_set_ne (Ne.symm hj)] at hl'
      exact h.dn j l' t u hl' hu (by omega)
theorem BR.next (h : BR wA s2 s5 gb vb id T mark k i ls W) (hi : (ptB id T k).length ≤ i) : BR wA s2 s5 gb vb id T mark (k + 1) 0 ls W := ⟨h.sp, h.fx, h.ll, h.ln, fun j l t u hl hu ho => by
  refine h.dn j l t u hl hu ?_
  rcases Nat.lt_or_ge j k with hj | hj
  · exact .inl hj
  · have hjk : j = k := by omega
    have h1 := h.ln j l hl
    have h2 := (List.getElem?_eq_some_iff.1 hu).1
    subst hjk
    exact .inr ⟨rfl, by omega⟩, h.ub⟩
end
/-- The longer forms while they are made. -/
structure CmR (wA wB : World) (s2 s5 gb : Nat) (vb : List Value) (ls : List (List UInt8)) (u5 : UInt8) (n : Nat) (y : Nat × Value × List Value) (W : World) : Prop where
  le : y.1 ≤ n
  bl : Blk W gb vb 24
  hb : ∀ (j : Nat) v l, vb[j]? = some v → ls[j]? = some l → Has W v l
  ob : ∀ (j : Nat) v l, y.1 ≤ j → vb[j]? = some v → ls[j]? = some l → Ob W s2 v l
  ow : Lb 24 1 W wB.heap.size y.2.1 (vr y.2.2)
  ln : y.2.2.length = y.1
  hs : ∀ (j : Nat) x l, y.2.2[j]? = some x → ls[j]? = some l → Ob W s2 x (l ++ [u5]) ∧ ∀ q, x.ownBlock = some q → wB.heap.size ≤ q ∨ ∃ v, vb[j]? = some v ∧ v.ownBlock = some q
  fx : Fx (fun q => s2 ≤ q ∧ q < s5) wA W
  sz : wB.heap.size ≤ W.heap.size
theorem CmR.step {wA wB : World} {s2 s5 gb : Nat} {vb : List Value} {ls : List (List UInt8)} {u5 : UInt8} {n k : Nat} {mv : Value} {mvs : List Value} {W : World} (h : CmR wA wB s2 s5 gb vb ls u5 n (k, mv, mvs) W) (hk : k < n) (hvl : vb.length = n) (hll : ls.length = n) (hn : n ≤ 64) (hlen : ∀ (j : Nat) l, ls[j]? = some l → l.length ≤ 1000)
    (ap : ∀ (i j : Nat) v u k k', i < j → vb[i]? = some v → vb[j]? = some u → v.ownBlock = some k → u.ownBlock = some k' → k < k') (ag : ∀ (i : Nat) v k, vb[i]? = some v → v.ownBlock = some k → gb < k) (ub : ∀ (j : Nat) v q, vb[j]? = some v → v.ownBlock = some q → s2 ≤ q ∧ q < s5) (hg : gb < s5) (h5 : s5 ≤ wB.heap.size) (h2 : s2 ≤ s5) (hAB : wA.heap.size ≤ wB.heap.size) :
    ∃ v s1 W1 v' W2 s3 W3 mv' W4, W.cell? ⟨gb, k, none⟩ = some v ∧ (Instr.buildSlice 24 1 [(0, byt u5)].toArray).run Tryd.prog W = .ok s1 W1 ∧ (Builtin.append_ #[24, 24] 24 #[v, s1]).run Tryd.prog W1 = .ok v' W2 ∧ (Instr.buildSlice 26 1 [(0, v')].toArray).run Tryd.prog W2 = .ok s3 W3 ∧ (Builtin.append_ #[26, 26] 26 #[mv, s3]).run Tryd.prog W3 = .ok mv' W4 ∧ CmR wA wB s2 s5 gb vb ls u5 n (k + 1, mv', mvs ++ [v']) W4 := by
  have hv := List.getElem?_eq_getElem (show k < vb.length by omega)
  have hl := List.getElem?_eq_getElem (show k < ls.length by omega)
  generalize vb[k] = v at hv
  generalize ls[k] = l at hl
  have hz := h.sz
  have hln : mvs.length = k := h.ln
  have o := h.ob k v l (Nat.le_refl _) hv hl
  have l1 := below_new W (.cells (([u5] : List UInt8).map byt).toArray 5)
  have hs1 := has_news W [u5]
  have r1 := bsl24_1 u5 W
  replace hs1 : Has (W.alloc (.cells (([u5] : List UInt8).map byt).toArray 5)) (.slice (some ⟨W.heap.size, 0, none⟩) 1 1) [u5] := hs1
  generalize W.alloc (.cells (([u5] : List UInt8).map byt).toArray 5) = W1 at l1 hs1 r1
  have z1 := l1.size
  have hl5 := hlen k l hl
  have o1 := o.below l1
  obtain ⟨v', W2, r2, o2, f2, nw2⟩ := o1.push (by omega) _ [u5] hs1 (by simp; omega) 24
  have old := o1.push_old hs1 (by simp; omega) 24 r2 o2.has
  have f12 : Fx (fun q => v.ownBlock = some q) W W2 := (Fx.of_below l1).trans f2 (fun _ _ e => e)
  have z2 := f12.size
  have r3 := bsl74_1 v' o2.has.sl W2
  have l3 := below_new W2 (.cells [v'].toArray 24)
  have nw := new1 (e := 24) W2 v'
  replace nw : Ow 24 1 (W2.alloc (.cells [v'].toArray 24)) (.slice (some ⟨W2.heap.size, 0, none⟩) 1 1) [[v']] := nw
  generalize W2.alloc (.cells [v'].toArray 24) = W3 at l3 nw r3
  have z3 := l3.size
  have f13 := f12.then_below l3
  have mb : ∀ q, mv.ownBlock = some q → wB.heap.size ≤ q := h.ow.base
  have ow3 := h.ow.fx f13 (fun q hq e => by have := mb q hq; have := (ub k v q hv e).2; omega)
  obtain ⟨mv', W4, r4, o4, be4, f4, nw4⟩ := ow3.app el24 (by omega) nw.li (fun x hx cc hc => by rw [List.mem_singleton.1 hx] at hc; rw [List.mem_singleton.1 hc]; exact o2.has.one) (by rw [vr_len, List.length_singleton]; show (mvs.length + 1) * 24 ≤ _; omega) 26
  have z4 := f4.size
  refine ⟨v, _, W1, v', W2, _, W3, mv', W4, (h.bl.cell k).trans hv, r1, r2, r3, r4, ⟨by show k + 1 ≤ n; omega, ?_, ?_, ?_, by show Lb 24 1 W4 _ mv' (vr (mvs ++ [v'])); rw [vr_app]; exact o4, by show (mvs ++ [v']).length = k + 1; rw [List.length_append, hln]; rfl, ?_, ?_, by omega⟩⟩
  · refine (h.bl.fx f13 (fun e => ?_)).fx f4 (fun e => ?_)
    · have := ag k v gb hv e; omega
    · have := mb gb e; omega
  · intro j x m hx hm
    have hx4 : Has W3 x m → Has W4 x m := fun hh => hh.fx f4 (fun q hq e => by have := mb q e; have := (ub j x q hx hq).2; omega)
    by_cases hj : j = k
    · subst hj
      rw [hv] at hx; cases hx
      rw [hl] at hm; cases hm
      exact hx4 (old.below l3)
    · refine hx4 ((h.hb j x m hx hm).fx f13 (fun q hq e => ?_))
      rcases Nat.lt_or_gt_of_ne hj with hlt | hlt
      · have := ap j k x v q q hlt hx hv hq e; omega
      · have := ap k j v x q q hlt hv hx e hq; omega
  · intro j x m hj hx hm
    have hj' : k + 1 ≤ j := hj
    refine ((h.ob j x m (by show k ≤ j; omega) hx hm).fx f13 (fun q e hq => ?_)).fx f4 (fun q e hq => ?_)
    · have := ap k j v x q q (by omega) hv hx e hq; omega
    · have := mb q e; have := (ub j x q hx hq).2; omega
  · intro j x m hx hm
    have hx' : (mvs ++ [v'])[j]? = some x := hx
    rcases Nat.lt_or_ge j k with hj | hj
    · rw [List.getElem?_append_left (by omega)] at hx'
      obtain ⟨q1, q2⟩ := h.hs j x m hx' hm
      refine ⟨?_, q2⟩
      have q3 := q1.fx f13 (fun q e hq => by
        rcases q2 q hq with e1 | ⟨y, e1, e2⟩
        · have := (ub k v q hv e).2; omega
        · have := ap j k y v q q hj e1 hv e2 e; omega)
      exact q3.fx f4 (fun q e hq => ow3.neO q3 (by decide) e hq)
    · rw [List.getElem?_append_right (by omega), hln] at hx'
      have hj0 : j = k := by
        have := (List.getElem?_eq_some_iff.1 hx').1
        simp at this; omega
      subst hj0
      rw [Nat.sub_self] at hx'
      cases hx'
      rw [hl] at hm; cases hm
      have q3 := o2.below l3
      refine ⟨q3.fx f4 (fun q e hq => ow3.neO q3 (by decide) e hq), fun q hq => ?_⟩
      rcases nw2 q hq with e | e
      · exact .inr ⟨v, hv, e⟩
      · exact .inl (by omega)
  · refine (h.fx.trans f13 (fun q _ e => ub k v q hv e)).trans f4 (fun q hq e => ?_)
    have := mb q e
    omega
/-- What stays, seen as lists of parts. -/
structure An (W : World) (av bv zv mv : Value) (pa pb pz pm : List (Value × List UInt8)) : Prop where
  ks : Kst W
  a : Parts W av pa
  b : Parts W bv pb
  z : Parts W zv pz
  m : Parts W mv pm
theorem An.on {W W' : World} {av bv zv mv : Value} {pa pb pz pm : List (Value × List UInt8)} (h : An W av bv zv mv pa pb pz pm) (hb : Below W.heap.size W W') : An W' av bv zv mv pa pb pz pm := ⟨h.ks.below hb h.ks.lt, h.a.on hb, h.b.on hb, h.z.on hb, h.m.on hb⟩
theorem Parts.get {w : World} {v : Value} {ps : List (Value × List UInt8)} (h : Parts w v ps) {i : Nat} {p : Value × List UInt8} (hp : ps[i]? = some p) : ∃ ad, (∀ W, (Instr.indexAt 26 v (.int .i64 (i : Int))).run Tryd.prog W = .ok (.pointer (some ad)) W) ∧ (∀ W, Below w.heap.size w W → (Instr.loadAt 24 (.pointer (some ad))).run Tryd.prog W = .ok p.1 W) ∧ Has w p.1 p.2 := by
  have hi : i < ps.length := (List.getElem?_eq_some_iff.1 hp).1
  rcases h with ⟨_, e0⟩ | ⟨ad, cap, rfl, _, hc⟩
  · rw [e0] at hi; cases hi
  · obtain ⟨c1, c2⟩ := hc i p hp
    exact ⟨ad.add i, fun W => x26 _ _ _ _ hi W, fun W hW => ldC ((hW.cell (cell_lt c1)).trans c1), c2⟩
theorem Parts.len {w : World} {v : Value} {ps : List (Value × List UInt8)} (h : Parts w v ps) (ty : TypeId) (W : World) : (Builtin.len_ #[26] ty #[v]).run Tryd.prog W = .ok (.int .i64 (ps.length : Int)) W := by
  obtain ⟨ao, c, rfl⟩ := h.slice
  exact len26 _ _ _ _ _
theorem blk_parts {W : World} {g : Nat} {vs : List Value} {ls : List (List UInt8)} (h : Blk W g vs 24) (hl : vs.length = ls.length) (ho : ∀ (i : Nat) v l, vs[i]? = some v → ls[i]? = some l → Has W v l) : Parts W (.slice (some ⟨g, 0, none⟩) ls.length ls.length) (vs.zip ls) := by
  have hzl : (vs.zip ls).length = ls.length := by rw [List.length_zip, hl, Nat.min_self]
  refine .inr ⟨⟨g, 0, none⟩, ls.length, by rw [hzl], by rw [hzl]; exact Nat.le_refl _, fun i p hp => ?_⟩
  have hz := List.getElem?_zip_eq_some.1 hp
  refine ⟨?_, ho i p.1 p.2 hz.1 hz.2⟩
  rw [add_plain]
  exact (h.cell i).trans hz.1
theorem st3a {w : World} {ad : Addr} {v0 : Value} (z : Int) (hc : w.cell? ad = some v0) (hf : w.frozen? ad = false) : (Instr.storeAt 3 (.pointer (some ad)) (.int .i64 z)).run Tryd.prog w = .ok () (w.setCell ad (.int .i64 z)) := by go_simp
theorem ir_set (l : List Int) (i : Nat) (z : Int) : (ir l).set i [.int .i64 z] = ir (l.set i z) := by simp [ir, List.map_set]
theorem Oi.set {w : World} {b : Nat} {v : Value} {l : List Int} (hl : Oi w b v l) {i : Nat} (hi : i < l.length) (z : Int) : ∃ ad w', (∀ W, (Instr.indexAt 23 v (.int .i64 (i : Int))).run Tryd.prog W = .ok (.pointer (some ad)) W) ∧ (Instr.storeAt 3 (.pointer (some ad)) (.int .i64 z)).run Tryd.prog w = .ok () w' ∧ Oi w' b v (l.set i z) ∧ Fx (fun j => v.ownBlock = some j) w w' := by
  have hl' : Lb 3 1 w b v (ir l) := hl
  rcases hl'.ow.addr with ⟨_, h2⟩ | ⟨g, cap, rfl⟩
  · have : l.length = 0 := by rw [← ir_len, h2]; rfl
    omega
  obtain ⟨⟨u, hc⟩, hf, hn, hx⟩ := hl'.ow.setC (i := i) (j := 0) (row := [.int .i64 l[i]]) (by unfold ir; rw [List.getElem?_map, List.getElem?_eq_getElem hi]; rfl) (by decide) (.int .i64 z)
  rw [addr_add, show i * 1 + 0 = i by omega] at hc hf hn hx
  refine ⟨(⟨g, 0, none⟩ : Addr).add i, _, fun W => x23 _ _ _ _ (by rw [ir_len]; exact hi) W, st3a z hc hf, ⟨?_, hl'.base⟩, hx.mono (fun k _ e => by have e' : k = g := e; rw [e']; rfl)⟩
  rw [← ir_set]; exact hn
/-- The parts ahead of k have come. -/
def fK (k i : Nat) : Bool := decide (i < k)
theorem fK_upd (k : Nat) : upd (fK k) k = fK (k + 1) := by
  funext i
  unfold upd fK
  split
  · rw [eq_comm, decide_eq_true_eq]; omega
  · rw [decide_eq_decide]; omega
theorem fK_mis (k m : Nat) : ((List.range (k + m)).filter fun i => !(fK k i)) = (List.range m).map (k + ·) := by
  rw [List.range_add, List.filter_append]
  have h1 : ((List.range k).filter fun i => !(fK k i)) = [] := by
    rw [List.filter_eq_nil_iff]
    intro i hi
    have := List.mem_range.1 hi
    simp [fK, this]
  have h2 : (((List.range m).map (k + ·)).filter fun i => !(fK k i)) = (List.range m).map (k + ·) := by
    rw [List.filter_eq_self]
    intro i hi
    obtain ⟨j, _, rfl⟩ := List.mem_map.1 hi
    simp [fK]
  rw [h1, h2, List.nil_append]
theorem bsl24_3 (a b c : UInt8) (w : World) : (Instr.buildSlice 24 3 [(0, byt a), (1, byt b), (2, byt c)].toArray).run Tryd.prog w = .ok (.slice (some ⟨w.heap.size, 0, none⟩) 3 3) (w.alloc (.cells ([a, b, c].map byt).toArray 5)) := by
  unfold byt
  go_simp
  try simp
  try rfl
theorem bsl24_2 (a b : UInt8) (w : World) : (Instr.buildSlice 24 2 [(0, byt a), (1, byt b)].toArray).run Tryd.prog w = .ok (.slice (some ⟨w.heap.size, 0, none⟩) 2 2) (w.alloc (.cells ([a, b].map byt).toArray 5)) := by
  unfold byt
  go_simp
  try simp
  try rfl
/-- The tray stays when other bytes turn. -/
theorem Tr.fxO {W W' : World} {p r most : Nat} {E : List Me} {c : Nat} (h : Tr W p r most E c) {b : Nat} {ow : Value} {bs : List UInt8} (ho : Ob W b ow bs) (hT : ∀ k, ow.ownBlock = some k → TrB E k) (hf : Fx (fun k => ow.ownBlock = some k) W W') : Tr W' p r most E c :=
  h.fx hf (fun e => ho.neB h.bl (by decide) e) (fun e => ho.neM h.mp.hp e) hT
theorem Ob.blkB {W W' : World} {b B : Nat} {v : Value} {bs : List UInt8} (ho : Ob W b v bs) (hB : B ≤ b) (hs : B ≤ W.heap.size) (hf : Fx (fun k => v.ownBlock = some k) W W') : Below B W W' := hf.below (fun k hk e => by have := ho.base k e; omega) hs
theorem Oi.blkB {W W' : World} {b B : Nat} {v : Value} {l : List Int} (ho : Oi W b v l) (hB : B ≤ b) (hs : B ≤ W.heap.size) (hf : Fx (fun k => v.ownBlock = some k) W W') : Below B W W' := hf.below (fun k hk e => by have := Lb.base ho k e; omega) hs
end Go.Proofs.YtiefgmgjlhjjhaaDoor
