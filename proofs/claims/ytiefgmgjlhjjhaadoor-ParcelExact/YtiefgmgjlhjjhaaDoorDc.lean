import Derived.Test.YtiefgmgjlhjjhaaDoorDb
set_option linter.unusedVariables false
set_option linter.unusedSimpArgs false
namespace Go.Proofs.YtiefgmgjlhjjhaaDoor
open Go.RowKit

attribute [local irreducible] sm sumOf cnt chk partB ptB lgL
theorem Lb.sl {e : TypeId} {k : Nat} {w : World} {b : Nat} {v : Value} {l : List (List Value)} (h : Lb e k w b v l) : ∃ ao n c, v = Value.slice ao n c := by
  rcases h.ow.addr with ⟨h1, _⟩ | ⟨g, cap, h1⟩ <;> exact ⟨_, _, _, h1⟩
theorem Rt.sl {w : World} {q : Nat} {v : Value} {most : Nat} {L : List Rp} (h : Rt w q v most L) : ∃ ao n c, v = Value.slice ao n c := by
  obtain ⟨ao, c, e⟩ := h.slice
  exact ⟨_, _, _, e⟩
set_option maxRecDepth 100000 in
set_option maxHeartbeats 4000000 in
theorem rgone_any (q : Nat) (v : Value) (most : Nat) (L : List Rp) (hL : L.length ≤ 1000000) (i : Nat) (hi : i < L.length) (w : World) (ht : Rt w q v most L) : Calls Tryd.prog 56 #[.pointer (some ⟨q, 0, none⟩), .int .i64 (i : Int)] w fun e w' => e = .returned (.tuple #[]) ∧ ∃ v', Rt w' q v' most (L.take i ++ L.drop (i + 1)) ∧ Fx (fun k => k = q) w w' ∧ (∀ b, v'.ownBlock = some b → w.heap.size ≤ b) := by
  obtain ⟨chv, ch1, ch2⟩ := ht.ow.li.cutH6 (k := i) (by rw [List.length_map]; exact hi)
  obtain ⟨clv, cl1, cl2⟩ := ht.ow.li.cutL6 (k := i) (by rw [List.length_map]; exact hi)
  have s1 : IntKind.i64.wrap ((i : Int) + 1) = ((i + 1 : Nat) : Int) := by rw [IntKind.wrap_i64]; omega
  refine calls_of_args [.pointer (some ⟨q, 0, none⟩), .int .i64 (i : Int)] Tryd.func56 rfl 25 Tryd.ntmps56 (by show 2 ≤ 25; decide) ?_
  refine EW.seq ?_
  refine EW.region ?_
  first | refine WL.assign rfl rfl rfl ?_
  refine WL.done ?_
  refine EW.on ?_
  refine EW.seq ?_
  refine EW.region ?_
  first | refine WL.move rfl rfl rfl ?_
  first | refine WL.move rfl rfl rfl ?_
  first | refine WL.nilc rfl rfl rfl ?_
  refine WL.field rfl rfl rfl (g82_0 _ _) ?_
  refine WL.load rfl rfl rfl (ld80 ht.bl rfl) ?_
  first | refine WL.move rfl rfl rfl ?_
  refine WL.sliceH rfl rfl rfl rfl (ch1 _) ?_
  obtain ⟨v1, w1, r1, o1, be1, _, _⟩ := (Lb.nil 114 6 w w.heap.size).app el80 (Nat.le_refl _) ch2 (fun x hx => cs_one ht.hs x (List.mem_of_mem_take hx)) (by rw [List.length_nil, List.length_take, List.length_map]; omega) 80
  refine WL.app rfl rfl rfl rfl r1 ?_
  have T1 := ht.on be1
  first | refine WL.assign rfl rfl rfl ?_
  refine WL.done ?_
  refine EW.on ?_
  refine EW.region ?_
  first | refine WL.move rfl rfl rfl ?_
  first | refine WL.move rfl rfl rfl ?_
  first | refine WL.move rfl rfl rfl ?_
  first | refine WL.nilc rfl rfl rfl ?_
  refine WL.field rfl rfl rfl (g82_0 _ _) ?_
  refine WL.load rfl rfl rfl (ld80 T1.bl rfl) ?_
  first | refine WL.move rfl rfl rfl ?_
  refine WL.bin rfl rfl rfl rfl (int_add s1 _ _ _) ?_
  refine WL.sliceL rfl rfl rfl rfl (cl1 _) ?_
  obtain ⟨v2, w2, r2, o2, be2, _, _⟩ := o1.app el80 be1.size (cl2.on be1) (fun x hx => cs_one ht.hs x (List.mem_of_mem_drop hx)) (by rw [List.nil_append, List.length_take, List.length_drop, List.length_map]; omega) 80
  refine WL.app rfl rfl rfl rfl r2 ?_
  have be12 := be1.trans be2
  have T2 := ht.on be12
  first | refine WL.nilc rfl rfl rfl ?_
  refine WL.field rfl rfl rfl (g82_0 _ _) ?_
  obtain ⟨w3, s3, b3, f3⟩ := st80 T2.bl o2.sl
  refine WL.store rfl rfl rfl s3 ?_
  refine WL.done ?_
  exact EW.falls Tryd.results56 ⟨rfl, v2, ⟨b3, (by have := (o2.fx f3 (fun j hj e => by have e' : j = q := e; have := o2.base j hj; have := ht.bl.lt; omega)).ow; rwa [List.nil_append, ← List.map_take, ← List.map_drop, ← List.map_append] at this), fun x hx => (T2.hs x (by rcases List.mem_append.1 hx with h | h; exact List.mem_of_mem_take h; exact List.mem_of_mem_drop h)).fx82 T2.sl T2.bl f3⟩, (Fx.of_below be12).and f3, o2.base⟩
def z114 : List Value := [sv [], u32v 0, .int .i64 0, sv [], .slice none 0 0, .slice none 0 0]
theorem zv114 (w : World) : (zeroValue 114).run Tryd.prog w = .ok (.agg z114.toArray) w := (zero_of_info (show (Tryd.prog.info? 114).map (fun i => (i.zero, i.size)) = some (some (.agg z114.toArray), 6) by kernel_rfl)).1 w
theorem st107 {w : World} {q j : Nat} {cs : List Value} {t : TypeId} (hb : Blk w q cs t) (hj : j < cs.length) {v : Value} (hv : ∃ ao n c, v = Value.slice ao n c) : ∃ w', (Instr.storeAt 107 (.pointer (some ⟨q, j, none⟩)) v).run Tryd.prog w = .ok () w' ∧ Blk w' q (cs.set j v) t ∧ Fx (fun k => k = q) w w' := by
  obtain ⟨ao, n, c, rfl⟩ := hv
  have hc : w.cell? ⟨q, j, none⟩ = some cs[j] := (hb.cell j).trans (List.getElem?_eq_getElem hj)
  have hf := hb.frozen j
  exact ⟨w.setCell ⟨q, j, none⟩ (.slice ao n c), by go_simp, hb.set j _, Fx.setCell (S := fun k => k = q) _ _ _ _ rfl⟩
theorem st26 {w : World} {q j : Nat} {cs : List Value} {t : TypeId} (hb : Blk w q cs t) (hj : j < cs.length) {v : Value} (hv : ∃ ao n c, v = Value.slice ao n c) : ∃ w', (Instr.storeAt 26 (.pointer (some ⟨q, j, none⟩)) v).run Tryd.prog w = .ok () w' ∧ Blk w' q (cs.set j v) t ∧ Fx (fun k => k = q) w w' := by
  obtain ⟨ao, n, c, rfl⟩ := hv
  have hc : w.cell? ⟨q, j, none⟩ = some cs[j] := (hb.cell j).trans (List.getElem?_eq_getElem hj)
  have hf := hb.frozen j
  exact ⟨w.setCell ⟨q, j, none⟩ (.slice ao n c), by go_simp, hb.set j _, Fx.setCell (S := fun k => k = q) _ _ _ _ rfl⟩
def Rp.new (x : Rp) (i t : Value) : Rp := { x with iv := i, tv := t }
theorem st114 {w : World} {q : Nat} {cs : List Value} (x : Rp) (h1 : x.cs.toArray.all (·.oneCell') = true) (hl : cs.length = 6) (hb : Blk w q cs 114) : ∃ w', (Instr.storeAt 114 (.pointer (some ⟨q, 0, none⟩)) x.val).run Tryd.prog w = .ok () w' ∧ Blk w' q x.cs 114 ∧ Fx (fun k => k = q) w w' := by
  obtain ⟨w', r1, r2, r3⟩ := hb.stA (ty := 114) (vs := x.cs) (o := 0) (a := []) (m := cs) (b := []) (i114 x) h1 (by simp) rfl (by rw [hl]; rfl)
  exact ⟨w', r1, by simpa using r2, r3⟩
theorem br_one (h : List Bool) : ∀ x ∈ br h, ∀ c ∈ x, c.oneCell' = true := fun x hx c hc => by
  obtain ⟨b, _, rfl⟩ := List.mem_map.1 hx
  rw [List.mem_singleton.1 hc]; rfl
theorem Rp.one' {x : Rp} (h1 : ∃ ao n c, x.iv = Value.slice ao n c) (h2 : ∃ ao n c, x.tv = Value.slice ao n c) : x.cs.toArray.all (·.oneCell') = true := by
  obtain ⟨_, _, _, e1⟩ := h1
  obtain ⟨_, _, _, e2⟩ := h2
  simp [Rp.cs, sv, u32v, Value.oneCell', e1, e2]
theorem Rp.hs.sls {w : World} {x : Rp} (h : x.hs w) : ∀ r ∈ x.ts.map (fun v => [v]), ∀ c ∈ r, c.oneCell' = true := fun r hr c hc => by
  obtain ⟨v, hv, rfl⟩ := List.mem_map.1 hr
  rw [List.mem_singleton.1 hc]
  obtain ⟨i, hi, e⟩ := List.getElem_of_mem hv
  have hi' : i < x.t.length := by rw [h.lt, ← h.ls]; exact hi
  have := (h.hx i v x.t[i] (by rw [List.getElem?_eq_getElem hi, e]) (List.getElem?_eq_getElem hi')).has.one
  exact this
set_option maxRecDepth 100000 in
set_option maxHeartbeats 4000000 in
theorem rtwin_any (x : Rp) (w : World) (hx : x.hs w) : Calls Tryd.prog 52 #[x.val] w fun e w' => ∃ vi vt, e = .returned (x.new vi vt).val ∧ Lb 4 1 w' w.heap.size vi (br x.h) ∧ Lb 24 1 w' w.heap.size vt (x.ts.map fun v => [v]) ∧ x.hs w' ∧ Below w.heap.size w w' := by
  refine calls_of_args [x.val] Tryd.func52 rfl 16 Tryd.ntmps52 (by show 1 ≤ 16; decide) ?_
  refine EW.seq ?_
  refine EW.region ?_
  obtain ⟨w1, q1, rb1, b1, l1, hq1⟩ := box_any 114 x.cs w
  refine WL.box rfl rfl rfl rb1 ?_
  obtain ⟨w2, q2, rn2, b2, l2, hq2⟩ := newB (cs := z114) zv114 w1
  refine WL.new rfl rfl rn2 ?_
  have L2 := bt l1 l2
  have x2 := hx.on L2
  have c1 := b1.on l2
  have n12 : q1 ≠ q2 := by have := b1.lt; omega
  refine WL.done ?_
  refine EW.on ?_
  refine EW.seq ?_
  refine EW.region ?_
  first | refine WL.assign rfl rfl rfl ?_
  refine WL.done ?_
  refine EW.on ?_
  refine EW.seq ?_
  refine EW.region ?_
  first | refine WL.assign rfl rfl rfl ?_
  refine WL.done ?_
  refine EW.on ?_
  refine EW.seq ?_
  refine EW.region ?_
  first | refine WL.move rfl rfl rfl ?_
  refine WL.field rfl rfl rfl (g114_4 _ _) ?_
  refine WL.load rfl rfl rfl (ld107 c1 (show x.cs[4]? = some x.iv from rfl)) ?_
  obtain ⟨vi, w3, r3, o3, be3, f3, _⟩ := (Lb.nil 4 1 w2 w2.heap.size).app el107 (Nat.le_refl _) x2.bi.li (br_one _) (by rw [List.length_nil, br_len, x2.lh]; have := x2.n2; omega) 107
  refine WL.app rfl rfl rfl rfl r3 ?_
  rw [List.nil_append] at o3
  refine WL.field rfl rfl rfl (g114_4 _ _) ?_
  obtain ⟨w4, s4, d1, f4⟩ := st107 (c1.on be3) (j := 4) (by show 4 < 6; decide) o3.sl
  refine WL.store rfl rfl rfl s4 ?_
  have hzq := c1.lt
  have o4 := o3.fx f4 (fun j hj e => by have e' : j = q1 := e; have := o3.base j hj; omega)
  have x4 : x.hs w4 := (x2.on be3).fx f4 (fun b e k => (x2.on be3).bi.neB (c1.on be3) (by decide) b e k) (fun b e k => (x2.on be3).pt.neB (c1.on be3) (by decide) b e k) (fun i u t hu ht k hk => by
    have e : k = q1 := hk
    rw [e]; exact ((x2.on be3).hx i u t hu ht).neB (c1.on be3) (by decide))
  have d2 := (b2.on be3).fx f4 (fun e => n12 e.symm)
  refine WL.done ?_
  refine EW.on ?_
  refine EW.seq ?_
  refine EW.region ?_
  first | refine WL.move rfl rfl rfl ?_
  refine WL.field rfl rfl rfl (g114_5 _ _) ?_
  refine WL.load rfl rfl rfl (ld26 d1 (show (x.cs.set 4 vi)[5]? = some x.tv from rfl)) ?_
  obtain ⟨vt, w5, r5, o5, be5, f5, _⟩ := (Lb.nil 24 1 w4 w4.heap.size).app el24 (Nat.le_refl _) x4.pt.li x4.sls (by rw [List.length_nil, List.length_map, x4.ls]; have := x4.n2; omega) 26
  refine WL.app rfl rfl rfl rfl r5 ?_
  rw [List.nil_append] at o5
  have o5i := o4.on be5
  refine WL.field rfl rfl rfl (g114_5 _ _) ?_
  obtain ⟨w6, s6, e1, f6⟩ := st26 (d1.on be5) (j := 5) (by show 5 < 6; decide) o5.sl
  refine WL.store rfl rfl rfl s6 ?_
  have o6i := o5i.fx f6 (fun j hj e => by have e' : j = q1 := e; have := o5i.base j hj; omega)
  have o6 := o5.fx f6 (fun j hj e => by have e' : j = q1 := e; have := o5.base j hj; have := d1.lt; omega)
  have x6 : x.hs w6 := (x4.on be5).fx f6 (fun b e k => (x4.on be5).bi.neB (d1.on be5) (by decide) b e k) (fun b e k => (x4.on be5).pt.neB (d1.on be5) (by decide) b e k) (fun i u t hu ht k hk => by
    have e : k = q1 := hk
    rw [e]; exact ((x4.on be5).hx i u t hu ht).neB (d1.on be5) (by decide))
  replace e1 : Blk w6 q1 (x.new vi vt).cs 114 := e1
  have e2 := (d2.on be5).fx f6 (fun e => n12 e.symm)
  refine WL.done ?_
  refine EW.on ?_
  refine EW.seq ?_
  refine EW.region ?_
  refine WL.load rfl rfl rfl (ld114 e1) ?_
  obtain ⟨w7, s7, g2, f7⟩ := st114 (x.new vi vt) (Rp.one' o3.sl o5.sl) rfl e2
  refine WL.store rfl rfl rfl s7 ?_
  refine WL.done ?_
  refine EW.on ?_
  refine EW.ret ?_
  have hl7 : Below w.heap.size w w7 := by
    have B4 : Below w.heap.size w w4 := (bt L2 be3).trans (f4.below (fun k hk e => by have e' : k = q1 := e; omega) (bt L2 be3).size)
    have B6 : Below w.heap.size w w6 := (bt B4 be5).trans (f6.below (fun k hk e => by have e' : k = q1 := e; omega) (bt B4 be5).size)
    exact B6.trans (f7.below (fun k hk e => by have e' : k = q2 := e; have := l1.size; omega) B6.size)
  have hz2 := b2.lt
  have hs4 : w.heap.size ≤ w4.heap.size := by have := L2.size; have := be3.size; have := f4.size; omega
  refine EW.returnsC Tryd.results52 rfl g2 Tryd.underlying114 rfl (i114 _) ⟨vi, vt, rfl, ⟨(o6i.fx f7 (fun j hj e => by have e' : j = q2 := e; have := o6i.base j hj; omega)).ow, fun j hj => by have := o6i.base j hj; have := L2.size; omega⟩, ⟨(o6.fx f7 (fun j hj e => by have e' : j = q2 := e; have := o6.base j hj; have := d2.lt; omega)).ow, fun j hj => by have := o6.base j hj; have := d2.lt; omega⟩, x6.fx f7 (fun b e k => x6.bi.neB e2 (by decide) b e k) (fun b e k => x6.pt.neB e2 (by decide) b e k) (fun i u t hu ht k hk => by
    have e : k = q2 := hk
    rw [e]; exact (x6.hx i u t hu ht).neB e2 (by decide)), hl7⟩
end Go.Proofs.YtiefgmgjlhjjhaaDoor
