import Derived.Test.YtiefgmgjlhjjhaaDoorPl
set_option linter.unusedVariables false
set_option linter.unusedSimpArgs false
namespace Go.Proofs.YtiefgmgjlhjjhaaDoor
open Go.RowKit

theorem ext_1 (a : Value) (W : World) : (Instr.extract (.tuple #[a]) 0).run Tryd.prog W = .ok a W := by go_simp
theorem rng59 {w : World} {r : Nat} {E : List Me} {c : Nat} (h : Mp w r E c) : ∃ w' it, (Instr.range 59 (.map (some r))).run Tryd.prog w = .ok (.pointer (some ⟨it, 0, none⟩)) w' ∧ w'.heap[it]? = some (.mapIter (some r) c #[] c) ∧ Below w.heap.size w w' ∧ it = w.heap.size := by
  have hg := getMap h.hp
  refine ⟨w.alloc (.mapIter (some r) c #[] c), w.heap.size, ?_, heap_alloc_new w _, below_new _ _, rfl⟩
  simp only [Instr.range, Sem.run_bind, run_underlying Tryd.underlying59, Result.andThen_ok, hg, Sem.run_pure]
  rfl
theorem setB {w w1 : World} {it : Nat} {o o' : Obj} (h : w.heap[it]? = some o') (hw : w1 = w ∨ w1 = w.drew) : (Go.ChangeMaps.setBlock w1 it o).heap[it]? = some o ∧ Fx (fun k => k = it) w (Go.ChangeMaps.setBlock w1 it o) := by
  have hi : it < w.heap.size := by
    rcases Nat.lt_or_ge it w.heap.size with hl | hl
    · exact hl
    · rw [Array.getElem?_eq_none hl] at h; cases h
  have e : w1.heap = w.heap ∧ w1.os = w.os ∧ w1.tape = w.tape ∧ w1.output = w.output := by rcases hw with rfl | rfl <;> exact ⟨rfl, rfl, rfl, rfl⟩
  refine ⟨?_, ⟨e.2.1, e.2.2.1, e.2.2.2, ?_, fun k hk hn => ?_⟩⟩
  · show (w1.heap.setIfInBounds it o)[it]? = _
    rw [e.1]; simp [hi]
  · show w.heap.size ≤ (w1.heap.setIfInBounds it o).size
    rw [e.1]; simp
  · show (w1.heap.setIfInBounds it o)[k]? = _
    rw [e.1, Array.getElem?_setIfInBounds, if_neg (fun e => hn e.symm)]

theorem nd_sub {α : Type} : ∀ {D E : List α}, D.Nodup → (∀ m ∈ D, m ∈ E) → D.length ≤ E.length
  | [], E, _, _ => Nat.zero_le _
  | d :: D, E, hn, hs => by
    obtain ⟨a, b, rfl⟩ := List.append_of_mem (hs d (by simp))
    rw [List.nodup_cons] at hn
    have := nd_sub (D := D) (E := a ++ b) hn.2 (fun m hm => by
      have h1 := hs m (by simp [hm])
      rcases List.mem_append.1 h1 with h | h
      · exact List.mem_append.2 (.inl h)
      · rcases List.mem_cons.1 h with e | h
        · rw [e] at hm; exact absurd hm hn.1
        · exact List.mem_append.2 (.inr h))
    simp only [List.length_append, List.length_cons] at this ⊢
    omega
theorem fx_new {g q : Nat} {a b c : World} (h : Fx (fun k => k = g) a b) (k : Fx (fun k => k = q) b c) (hq : a.heap.size ≤ q) : Fx (fun k => k = g) a c := h.trans k (fun i hi e => by omega)
theorem Has.offI {w : World} {v : Value} {bs : List UInt8} (h : Has w v bs) {r : Nat} {o : Option Nat} {n : Nat} {s : Array Nat} {c : Nat} (hr : w.heap[r]? = some (.mapIter o n s c)) : Off v bs r := by
  rcases h with ⟨rfl, rfl⟩ | ⟨ad, cap, rfl, h2, h3⟩
  · exact .inl rfl
  · cases bs with
    | nil => exact .inl rfl
    | cons u t =>
      right
      intro e
      simp only [Value.ownBlock, Option.some.injEq] at e
      have := h3 0 u rfl
      have hb : (ad.add 0).block = r := by rw [add_block]; exact e
      unfold World.cell? at this
      rw [hb, hr] at this
      cases this
theorem Tr.iter {w w' : World} {p r most : Nat} {E : List Me} {c it : Nat} (h : Tr w p r most E c) (hi : ∃ o n s k, w.heap[it]? = some (.mapIter o n s k)) (hf : Fx (fun k => k = it) w w') : Tr w' p r most E c := by
  obtain ⟨o, n, s, k, hi⟩ := hi
  refine h.fx hf (fun e => ?_) (fun e => ?_) (fun k hk m hm i v b hv hb => ?_)
  · have e' : p = it := e
    have := h.bl
    unfold Blk at this
    rw [← e', this] at hi; cases hi
  · have e' : r = it := e
    have := h.mp.hp
    rw [← e', this] at hi; cases hi
  · have e' : k = it := hk
    rw [e']
    exact ((h.hs m hm).has i v b hv hb).offI hi
/-- Without a peer's parcels. -/
def notP (a : List UInt8) (m : Me) : Bool := !decide (m.p = a)
def dropE (E : List Me) (a : List UInt8) : List Me := E.filter (notP a)
theorem del_len {E : List Me} (hnd : (E.map fun m => (m.p, m.id)).Nodup) {m : Me} (hm : m ∈ E) : (delE E m.p m.id).length + 1 = E.length := by
  cases hk : fk m.p m.id E 0 with
  | none =>
    have := fk_lk m.p m.id E 0
    rw [hk] at this
    have hn : lkE E m.p m.id = none := by
      cases hq : lkE E m.p m.id with
      | none => rfl
      | some K => rw [hq] at this; cases this
    exact absurd ⟨rfl, rfl⟩ (lk_none hn m hm)
  | some x =>
    obtain ⟨j, v⟩ := x
    obtain ⟨_, h2, h3⟩ := fk_del hnd hk
    rw [← h2, List.length_eraseIdx, if_pos h3]; omega
theorem del_fil (E : List Me) (a : List UInt8) (id : Nat) : (delE E a id).filter (notP a) = E.filter (notP a) := by
  unfold delE
  rw [List.filter_filter]
  refine List.filter_congr fun m _ => ?_
  unfold notP
  by_cases h : m.p = a
  · simp [h]
  · simp [h, show ¬ a = m.p from fun e => h e.symm]
def dE (p it : Nat) (a : List UInt8) (n : Nat) (x : List Nat × List Me) : List (Nat × Value) := [(0, .pointer (some ⟨p, 0, none⟩)), (1, sv a), (5, .int .i64 ((n - x.2.length : Nat) : Int)), (11, .pointer (some ⟨it, 0, none⟩))]
structure DR (w : World) (p r most it : Nat) (a : List UInt8) (E : List Me) (c : Nat) (x : List Nat × List Me) (W : World) : Prop where
  tr : Tr W p r most x.2 c
  itr : W.heap[it]? = some (.mapIter (some r) c x.1.toArray c)
  nd : x.1.Nodup
  sub : ∀ b ∈ x.1, b ∈ E.map Me.b
  sl : x.2.Sublist E
  fl : x.2.filter (notP a) = E.filter (notP a)
  un : ∀ m ∈ x.2, m.p = a → m.b ∉ x.1
  fx : Fx (fun k => k = r) w W
theorem iter_on {w w' : World} {it : Nat} {o : Obj} (h : w.heap[it]? = some o) {S : Nat → Prop} (hf : Fx S w w') (hS : ¬ S it) : w'.heap[it]? = some o := by
  have hi : it < w.heap.size := by
    rcases Nat.lt_or_ge it w.heap.size with hl | hl
    · exact hl
    · rw [Array.getElem?_eq_none hl] at h; cases h
  rw [hf.block it hi hS]; exact h
theorem nd_inj : ∀ {E : List Me}, (E.map Me.b).Nodup → ∀ {x y : Me}, x ∈ E → y ∈ E → x.b = y.b → x = y
  | [], _, x, y, hx, _, _ => by cases hx
  | a :: r, h, x, y, hx, hy, hb => by
    rw [List.map_cons, List.nodup_cons] at h
    rcases List.mem_cons.1 hx with ex | hx'
    · rcases List.mem_cons.1 hy with ey | hy'
      · rw [ex, ey]
      · exact absurd (List.mem_map.2 ⟨y, hy', by rw [← hb, ex]⟩) h.1
    · rcases List.mem_cons.1 hy with ey | hy'
      · exact absurd (List.mem_map.2 ⟨x, hx', by rw [hb, ey]⟩) h.1
      · exact nd_inj h.2 hx' hy' hb
set_option maxRecDepth 100000 in
set_option maxHeartbeats 4000000 in
theorem drop_any (p r most : Nat) (E : List Me) (c : Nat) (a : List UInt8) (w : World) (ht : Tr w p r most E c) (hEl : E.length ≤ 1000000) : Calls Tryd.prog 14 #[.pointer (some ⟨p, 0, none⟩), sv a] w fun e w' => ∃ c1, e = .returned (.int .i64 ((E.length - (dropE E a).length : Nat) : Int)) ∧ Tr w' p r most (dropE E a) c1 ∧ Fx (fun k => k = r) w w' := by
  refine calls_of_args [.pointer (some ⟨p, 0, none⟩), sv a] Tryd.func14 rfl 28 Tryd.ntmps14 (by show 2 ≤ 28; decide) ?_
  refine EW.seq ?_
  refine EW.region ?_
  first | refine WL.assign rfl rfl rfl ?_
  refine WL.done ?_
  refine EW.on ?_
  refine EW.seq ?_
  refine EW.region ?_
  first | refine WL.assign rfl rfl rfl ?_
  refine WL.done ?_
  refine EW.on ?_
  refine EW.seq ?_
  refine EW.seq ?_
  refine EW.region ?_
  first | refine WL.move rfl rfl rfl ?_
  first | refine WL.nilc rfl rfl rfl ?_
  refine WL.field rfl rfl rfl (f61_1 _ _) ?_
  refine WL.load rfl rfl rfl (ldM ht.bl rfl) ?_
  obtain ⟨w2, it, r2, i2, l2, hit⟩ := rng59 ht.mp
  refine WL.rng rfl rfl rfl r2 ?_
  refine WL.done ?_
  refine EW.on ?_
  refine EW.block ?_
  refine EW.loop (dE p it a E.length) (DR w p r most it a E c) (fun x => E.length - x.1.length) ([], E) [0, 1, 5, 11] (by simp only [keepE, dE, Nat.sub_self]; rfl) ⟨ht.on l2, i2, List.nodup_nil, fun b hb => (by cases hb), List.Sublist.refl _, rfl, fun m _ _ h => (by cases h), Fx.of_below l2⟩ ?_
  rintro x wi R
  show EW _ _ _ _ [(0, .pointer (some ⟨p, 0, none⟩)), (1, sv a), (5, .int .i64 ((E.length - x.2.length : Nat) : Int)), (11, .pointer (some ⟨it, 0, none⟩))] _
  have hir : it ≠ r := by have := ht.mp.ltb; omega
  refine EW.seq ?_
  rcases run_next_at (P := Tryd.prog) wi 0 it r c c _ _ c R.itr R.tr.mp.hp (fun x hx => by
    obtain ⟨m, hm, rfl⟩ := List.mem_map.1 (by simpa using hx)
    exact R.tr.mp.lt m hm) (Nat.le_refl _) with ⟨h0, rn⟩ | ⟨ee, hee, w3, hw3, rn⟩
  · have hall : ∀ m ∈ x.2, m.b ∈ x.1 := fun m hm => by
      refine Classical.byContradiction fun hn => ?_
      have hmem : m.e ∈ leftOf (x.2.map Me.e).toArray x.1.toArray := by
        unfold leftOf
        rw [Array.mem_filter]
        refine ⟨by simpa using ⟨m, hm, rfl⟩, ?_⟩
        have : x.1.toArray.contains m.e.born = false := by
          rw [List.contains_toArray, Bool.eq_false_iff, ne_eq, List.contains_iff_mem]
          exact hn
        rw [this]; rfl
      rw [Array.eq_empty_of_size_eq_zero h0] at hmem
      simp at hmem
    have hfin : x.2 = dropE E a := by
      unfold dropE
      rw [← R.fl]
      refine (List.filter_eq_self.2 fun m hm => ?_).symm
      unfold notP
      rw [decide_eq_false (fun e => R.un m hm e (hall m hm))]; rfl
    refine EW.region ?_
    refine WL.nxt rfl rfl rfl rn ?_
    first | refine WL.extract rfl rfl rfl (ext_1 _ _) ?_ | refine WL.extract rfl rfl rfl (ext_3 _ _ _ _).1 ?_
    refine WL.done ?_
    refine EW.on ?_
    refine EW.seq ?_
    refine EW.cond_f rfl ?_
    refine EW.exit ?_
    refine px_then ?_
    refine px_then ?_
    refine px_block ?_
    refine EW.on ?_
    refine EW.seq ?_
    refine EW.region ?_
    first | refine WL.move rfl rfl rfl ?_
    first | refine WL.assign rfl rfl rfl ?_
    refine WL.done ?_
    refine EW.on ?_
    refine EW.ret ?_
    exact EW.returns Tryd.results14 rfl ⟨c, by rw [← hfin], hfin ▸ R.tr, R.fx⟩
  · obtain ⟨m, hm, he, hns⟩ : ∃ m ∈ x.2, m.e = ee ∧ m.b ∉ x.1 := by
      unfold leftOf at hee
      rw [Array.mem_toList_iff, Array.mem_filter] at hee
      obtain ⟨m, hm, he⟩ := List.mem_map.1 (show ee ∈ x.2.map Me.e by simpa using hee.1)
      refine ⟨m, hm, he, fun hin => ?_⟩
      have h2 := hee.2
      rw [← he, show x.1.toArray.contains m.e.born = true by rw [List.contains_toArray, List.contains_iff_mem]; exact hin] at h2
      cases h2
    subst he
    obtain ⟨iS, fS⟩ := setB (o := .mapIter (some r) c (x.1.toArray.push m.e.born) c) R.itr hw3
    generalize hw4 : Go.ChangeMaps.setBlock w3 it (.mapIter (some r) c (x.1.toArray.push m.e.born) c) = w4 at iS fS rn
    have T4 := R.tr.iter ⟨_, _, _, _, R.itr⟩ fS
    have re := run_entry_at (P := Tryd.prog) w4 it r c x.1.toArray (x.2.map Me.e).toArray c m.e iS T4.mp.hp (by simpa using ⟨m, hm, rfl⟩) (by simpa [Me.e, Function.comp_def] using T4.mp.bn)
    have hmE := R.sl.subset hm
    have F4 := fx_new R.fx fS (by have := l2.size; omega)
    rw [List.push_toArray] at iS
    replace iS : w4.heap[it]? = some (.mapIter (some r) c (x.1 ++ [m.b]).toArray c) := iS
    have hlen : x.1.length + 1 ≤ E.length := by
      have h1 := nd_sub (D := x.1 ++ [m.b]) (E := E.map Me.b) (by rw [List.nodup_append]; exact ⟨R.nd, by simp, fun a ha b hb e => by rw [List.mem_singleton.1 hb] at e; rw [e] at ha; exact hns ha⟩) (fun b hb => by
        rcases List.mem_append.1 hb with h | h
        · exact R.sub b h
        · rw [List.mem_singleton.1 h]; exact List.mem_map.2 ⟨m, hmE, rfl⟩)
      simpa using h1
    have hx2 := R.sl.length_le
    have hdl := del_len R.tr.mp.nd hm
    have hnd : (x.1 ++ [m.b]).Nodup := by rw [List.nodup_append]; exact ⟨R.nd, by simp, fun a ha b hb e => by rw [List.mem_singleton.1 hb] at e; rw [e] at ha; exact hns ha⟩
    have hsub : ∀ b ∈ x.1 ++ [m.b], b ∈ E.map Me.b := fun b hb => by
      rcases List.mem_append.1 hb with h | h
      · exact R.sub b h
      · rw [List.mem_singleton.1 h]; exact List.mem_map.2 ⟨m, hmE, rfl⟩
    have hbu : ∀ y ∈ x.2, y.b = m.b → y = m := fun y hy e => nd_inj T4.mp.bn hy hm e
    refine EW.region ?_
    refine WL.nxt rfl rfl rfl rn ?_
    first | refine WL.extract rfl rfl rfl (ext_1 _ _) ?_ | refine WL.extract rfl rfl rfl (ext_3 _ _ _ _).1 ?_
    refine WL.done ?_
    refine EW.on ?_
    refine EW.seq ?_
    refine EW.cond_t rfl ?_
    refine EW.skip ?_
    refine EW.on ?_
    refine EW.block ?_
    refine EW.seq ?_
    refine EW.region ?_
    refine WL.ent rfl rfl rfl re ?_
    first | refine WL.extract rfl rfl rfl (ext_2 _ _ _).1 ?_
    obtain ⟨w5, q6, rn6, b6, l5, hq6⟩ := newB (cs := [sv [], u32v 0]) zv67 w4
    refine WL.new rfl rfl rn6 ?_
    obtain ⟨w6, s6, b6', f6⟩ := st67 b6 m.p m.id
    refine WL.store rfl rfl rfl s6 ?_
    have l6 : Below w4.heap.size w4 w6 := l5.trans (f6.below (fun k hk e => by have e' : k = q6 := e; omega) l5.size)
    have T6 := T4.on l6
    have i6 := iter_on (S := fun _ => False) iS (Fx.of_below l6) (fun h => h)
    refine WL.done ?_
    refine EW.on ?_
    refine EW.seq ?_
    refine EW.region ?_
    refine WL.field rfl rfl rfl (f67_0 _ _) ?_
    refine WL.load rfl rfl rfl (ldT b6' rfl) ?_
    first | refine WL.move rfl rfl rfl ?_
    refine WL.bin rfl rfl rfl rfl (str_eq_s _ _ _ _ _) ?_
    refine WL.done ?_
    refine EW.on ?_
    refine EW.cond_d rfl (fun h19 => ?_) (fun h19 => ?_)
    · have sA : IntKind.i64.wrap (((E.length - x.2.length : Nat) : Int) + 1) = ((E.length - (delE x.2 m.p m.id).length : Nat) : Int) := by
        rw [IntKind.wrap_i64]
        have hb := hEl
        omega
      refine EW.seq ?_
      refine EW.ordB [(0, 0, 0), (1, 0, 0), (2, 0, 0), (3, 0, 1), (4, 0, 1), (5, 1, 0)] (by kernel_rfl) rfl (by kernel_rfl) ?_
      simp only [opsZ, List.getD_cons_zero, List.getD_cons_succ]
      first | refine ZE.move rfl rfl rfl rfl sz0 ?_
      first | refine ZE.nilc rfl rfl rfl rfl sz0 ?_
      refine ZE.field rfl rfl rfl rfl sz0 (fun W => f61_1 _ W) ?_
      refine ZE.load rfl rfl rfl rfl sz1 (fun W hW => ldM (T6.on (hW.resolve_left (by decide))).bl rfl) ?_
      refine ZE.load rfl rfl rfl rfl sz1 (fun W hW => ld67 (b6'.on (hW.resolve_left (by decide)))) ?_
      refine ZE.del (fun W => Tr W p r most (delE x.2 m.p m.id) c ∧ W.heap[it]? = some (.mapIter (some r) c (x.1 ++ [m.b]).toArray c) ∧ Fx (fun k => k = r) w6 W) rfl rfl rfl (fun _ _ => .inl rfl) (fun W hW => ?_) ?_
      · obtain ⟨W2, d1, d2, d3⟩ := run_del (T6.on hW).mp m.p m.id 0 67
        exact ⟨_, W2, d1, (T6.on hW).del (List.filter_sublist) d2 d3, iter_on (iter_on (S := fun _ => False) i6 (Fx.of_below hW) (fun h => h)) d3 (fun e => hir e), (Fx.of_below hW).and d3⟩
      rintro w7 ⟨T7, i7, F7⟩
      refine EW.on ?_
      refine EW.region ?_
      first | refine WL.move rfl rfl rfl ?_
      refine WL.bin rfl rfl rfl rfl (int_add sA _ _ _) ?_
      first | refine WL.assign rfl rfl rfl ?_
      refine WL.done ?_
      refine pn_block ?_
      refine EW.again (x.1 ++ [m.b], delE x.2 m.p m.id) [0, 1, 5, 11] rfl ⟨T7, i7, hnd, hsub, (List.filter_sublist).trans R.sl, by rw [h19, del_fil]; exact R.fl, fun y hy hya hyb => ?_, (F4.then_below l6).and F7⟩ (by show E.length - (x.1 ++ [m.b]).length < E.length - x.1.length; rw [List.length_append, List.length_singleton]; omega)
      have hy' : y ∈ delE x.2 m.p m.id := hy
      unfold delE at hy'
      rw [List.mem_filter] at hy'
      rcases List.mem_append.1 hyb with h | h
      · exact R.un y hy'.1 hya h
      · have := hbu y hy'.1 (List.mem_singleton.1 h)
        rw [this] at hy'
        simp at hy'
    · refine EW.skip ?_
      refine pn_block ?_
      refine EW.again (x.1 ++ [m.b], x.2) [0, 1, 5, 11] rfl ⟨T6, i6, hnd, hsub, R.sl, R.fl, fun y hy hya hyb => ?_, F4.then_below l6⟩ (by show E.length - (x.1 ++ [m.b]).length < E.length - x.1.length; rw [List.length_append, List.length_singleton]; omega)
      rcases List.mem_append.1 hyb with h | h
      · exact R.un y hy hya h
      · have := hbu y hy (List.mem_singleton.1 h)
        rw [this] at hya
        exact h19 hya
end Go.Proofs.YtiefgmgjlhjjhaaDoor
