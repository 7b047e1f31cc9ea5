import Derived.Test.YtiefgmgjlhjjhaaDoorPf
set_option linter.unusedVariables false
set_option linter.unusedSimpArgs false
namespace Go.Proofs.YtiefgmgjlhjjhaaDoor
open Go.RowKit

/-- A list of rows in a block of one's own, at least b. -/
structure Lb (e : TypeId) (k : Nat) (w : World) (b : Nat) (v : Value) (l : List (List Value)) : Prop where
  ow : Ow e k w v l
  base : ∀ j, v.ownBlock = some j → b ≤ j
theorem Lb.nil (e : TypeId) (k : Nat) (w : World) (b : Nat) : Lb e k w b (.slice none 0 0) [] := ⟨Ow.nil _ _ _, fun j h => by cases h⟩
theorem Lb.on {e : TypeId} {k : Nat} {w w' : World} {b : Nat} {v : Value} {l : List (List Value)} (h : Lb e k w b v l) (hb : Below w.heap.size w w') : Lb e k w' b v l := ⟨h.ow.on hb, h.base⟩
theorem Lb.fx {e : TypeId} {k : Nat} {S : Nat → Prop} {w w' : World} {b : Nat} {v : Value} {l : List (List Value)} (h : Lb e k w b v l) (hf : Fx S w w') (ho : ∀ j, v.ownBlock = some j → ¬ S j) : Lb e k w' b v l := ⟨h.ow.fx hf ho, h.base⟩
theorem Lb.app {t e : TypeId} {k by' : Nat} (E : El t e k by') {w : World} {b : Nat} {v u : Value} {l m : List (List Value)} (h : Lb e k w b v l) (hbw : b ≤ w.heap.size) (hu : Li k w u m) (h1 : ∀ x ∈ m, ∀ c ∈ x, c.oneCell' = true) (hb : (l.length + m.length) * by' ≤ 140737488355328) (ty : TypeId) :
    ∃ v' w', (Builtin.append_ #[t, t] ty #[v, u]).run Tryd.prog w = .ok v' w' ∧ Lb e k w' b v' (l ++ m) ∧ Below b w w' ∧ Fx (fun j => v.ownBlock = some j) w w' ∧ Nw w v v' := by
  obtain ⟨v', w', r1, r2, r3, r4⟩ := h.ow.app E hu h1 hb ty
  refine ⟨v', w', r1, ⟨r2, fun j hj => ?_⟩, r3.below (fun j hj e => by have := h.base j e; omega) hbw, r3, r4⟩
  rcases r4 j hj with e | e
  · exact h.base j e
  · omega
theorem el3 : El 23 3 1 8 := by
  refine ⟨Tryd.underlying23, ?_, by decide, by decide, by decide⟩
  have h : (Tryd.prog.info? 3).map (fun i => (i.zero, i.size, i.bytes)) = some (some (.int .i64 0), 1, 8) := by kernel_rfl
  obtain ⟨i, hi, h1, h2, h3⟩ := info_parts h
  exact ⟨i, _, hi, h1, h2, h3, rfl⟩
theorem el24 : El 26 24 1 24 := by
  refine ⟨Tryd.underlying26, ?_, by decide, by decide, by decide⟩
  have h : (Tryd.prog.info? 24).map (fun i => (i.zero, i.size, i.bytes)) = some (some (.slice none 0 0), 1, 24) := by kernel_rfl
  obtain ⟨i, hi, h1, h2, h3⟩ := info_parts h
  exact ⟨i, _, hi, h1, h2, h3, rfl⟩
theorem bs23 (x : Int) (w : World) : (Instr.buildSlice 23 1 [(0, .int .i64 x)].toArray).run Tryd.prog w = .ok (.slice (some ⟨w.heap.size, 0, none⟩) 1 1) (w.alloc (.cells #[.int .i64 x] 3)) := by
  go_simp
  try rfl
theorem new1 {e : TypeId} (w : World) (x : Value) : Ow e 1 (w.alloc (.cells #[x] e)) (.slice (some ⟨w.heap.size, 0, none⟩) 1 1) [[x]] := Ow.new (k := 1) w [[x]] (by simp) (by simp [maxLen])
/-- Numbers in a slice of one's own. -/
def ir (l : List Int) : List (List Value) := l.map fun x => [.int .i64 x]
def Oi (w : World) (b : Nat) (v : Value) (l : List Int) : Prop := Lb 3 1 w b v (ir l)
theorem ir_len (l : List Int) : (ir l).length = l.length := by simp [ir]
theorem ir_app (l m : List Int) : ir (l ++ m) = ir l ++ ir m := by simp [ir]
theorem Oi.push {w : World} {b : Nat} {v : Value} {l : List Int} (h : Oi w b v l) (hbw : b ≤ w.heap.size) (x : Int) (hl : l.length ≤ 1000000) (ty : TypeId) : ∃ s w1 v' w2, (Instr.buildSlice 23 1 [(0, .int .i64 x)].toArray).run Tryd.prog w = .ok s w1 ∧ (Builtin.append_ #[23, 23] ty #[v, s]).run Tryd.prog w1 = .ok v' w2 ∧ Oi w2 b v' (l ++ [x]) ∧ Below b w w2 ∧ Fx (fun j => v.ownBlock = some j) w w2 ∧ Nw w v v' := by
  have l1 := below_new w (.cells #[.int .i64 x] 3)
  obtain ⟨v', w2, r1, r2, r3, r4, r5⟩ := (Lb.on h l1).app el3 (by have := l1.size; omega) (new1 w (.int .i64 x)).li (by simp [Value.oneCell']) (by rw [ir_len]; simp; omega) ty
  refine ⟨_, _, v', w2, bs23 x w, r1, ?_, (l1.mono hbw).trans r3, (Fx.of_below l1).and r4, fun j hj => ?_⟩
  · unfold Oi; rw [ir_app]; exact r2
  · rcases r5 j hj with e | e
    · exact .inl e
    · right; have := l1.size; omega
theorem Oi.slice {w : World} {b : Nat} {v : Value} {l : List Int} (h : Oi w b v l) : ∃ ao c, v = .slice ao l.length c := by
  rcases h.ow.addr with ⟨h1, h2⟩ | ⟨g, cap, h1⟩
  · have : l = [] := by cases l with | nil => rfl | cons a r => simp [ir] at h2
    subst this; exact ⟨_, _, h1⟩
  · rw [ir_len] at h1; exact ⟨_, _, h1⟩
theorem len23 (ao : Option Addr) (n c : Nat) (W : World) (ty : TypeId) : (Builtin.len_ #[23] ty #[.slice ao n c]).run Tryd.prog W = .ok (.int .i64 (n : Int)) W := by go_simp
theorem len26 (ao : Option Addr) (n c : Nat) (W : World) (ty : TypeId) : (Builtin.len_ #[26] ty #[.slice ao n c]).run Tryd.prog W = .ok (.int .i64 (n : Int)) W := by go_simp
theorem len107 (ao : Option Addr) (n c : Nat) (W : World) (ty : TypeId) : (Builtin.len_ #[107] ty #[.slice ao n c]).run Tryd.prog W = .ok (.int .i64 (n : Int)) W := by go_simp
theorem x107 (q n m : Nat) (c : Nat) (h : m < n) (W : World) : (Instr.indexAt 107 (.slice (some ⟨q, 9, none⟩) n c) (.int .i64 (m : Int))).run Tryd.prog W = .ok (.pointer (some ⟨q, 9 + m, none⟩)) W := by
  have hm : (m : Int) < (n : Int) := by omega
  go_simp
  try rw [Addr.add_mid]
/-- A part comes. -/
def Pc.put (p : Pc) (i : Nat) (u : Value) (b : List UInt8) : Pc := { p with h := p.h.set i true, t := p.t.set i b, v := p.v.set i u }
theorem Pc.put_sh {p : Pc} (h : p.sh) (i : Nat) {u : Value} (hu : ∃ ao n c, u = Value.slice ao n c) (b : List UInt8) : (p.put i u b).sh := ⟨h.n2, h.s, by simp [Pc.put, h.h], by simp [Pc.put, h.t], by simp [Pc.put, h.v], fun x hx => by
  rcases List.mem_or_eq_of_mem_set hx with h' | h'
  · exact h.sl x h'
  · rw [h']; exact hu⟩
theorem Pc.put_hs {w : World} {p : Pc} (hp : p.sh) (h : p.hs w) (i : Nat) (hi : i < 64) {u : Value} {b : List UInt8} (hu : Has w u b) (hb : b.length ≤ 497) : (p.put i u b).hs w := by
  refine ⟨fun j v c hv hc => ?_, fun c hc => ?_⟩
  · simp only [Pc.put, List.getElem?_set] at hv hc
    by_cases e : i = j
    · subst e
      rw [if_pos rfl, if_pos (by rw [hp.v]; exact hi)] at hv
      rw [if_pos rfl, if_pos (by rw [hp.t]; exact hi)] at hc
      cases hv; cases hc; exact hu
    · rw [if_neg e] at hv hc
      exact h.has j v c hv hc
  · rcases List.mem_or_eq_of_mem_set hc with h' | h'
    · exact h.le c h'
    · rw [h']; exact hb
theorem Pc.cs_put {p : Pc} (h : p.sh) (i : Nat) (hi : i < 64) (u : Value) (b : List UInt8) : (p.cs.set (9 + i) (.bool true)).set (73 + i) u = (p.put i u b).cs := by
  have e : p.cs = ([.int .i64 (p.n : Int)] ++ p.s.map byt) ++ (p.h.map Value.bool ++ p.v) := by simp [Pc.cs]
  have e2 : (p.put i u b).cs = ([.int .i64 (p.n : Int)] ++ p.s.map byt) ++ ((p.h.set i true).map Value.bool ++ p.v.set i u) := by simp [Pc.cs, Pc.put]
  rw [e, e2, List.set_append_right _ _ (by simp [h.s] <;> omega), List.set_append_right _ _ (by simp [h.s] <;> omega)]
  congr 1
  have l1 : ([Value.int .i64 (p.n : Int)] ++ p.s.map byt).length = 9 := by simp [h.s]
  rw [l1, show 9 + i - 9 = i by omega, show 73 + i - 9 = 64 + i by omega, List.set_append_left _ _ (by rw [List.length_map, h.h]; exact hi), List.set_append_right _ _ (by simp [h.h] <;> omega)]
  congr 1
  · rw [List.map_set]
  · rw [List.length_set, List.length_map, h.h, show 64 + i - 64 = i by omega]
theorem Blk.stS' {w : World} {q j : Nat} {cs : List Value} {t : TypeId} (hb : Blk w q cs t) (hj : j < cs.length) {v : Value} (hv : ∃ ao n c, v = Value.slice ao n c) : ∃ w', (Instr.storeAt 24 (.pointer (some ⟨q, j, none⟩)) v).run Tryd.prog w = .ok () w' ∧ Blk w' q (cs.set j v) t ∧ Fx (fun k => k = q) w w' := by
  obtain ⟨ao, n, c, rfl⟩ := hv
  exact stS hb hj ao n c
set_option maxRecDepth 100000 in
set_option maxHeartbeats 4000000 in
theorem with_any (p : Pc) (hp : p.sh) (x : Pi) (hx : x.sh) (hi : x.i < 64) (b : List UInt8) (w : World) : Calls Tryd.prog 25 #[p.val, x.val] w fun e w' => e = .returned (p.put x.i x.v b).val ∧ Below w.heap.size w w' := by
  have hn := Pc.put_sh hp x.i hx.sl b
  refine calls_of_args [p.val, x.val] Tryd.func25 rfl 16 Tryd.ntmps25 (by show 2 ≤ 16; decide) ?_
  refine EW.seq ?_
  refine EW.region ?_
  obtain ⟨w1, q1, rb1, b1, l1, hq1⟩ := box_any 71 p.cs w
  refine WL.box rfl rfl rfl rb1 ?_
  obtain ⟨w2, q2, rb2, b2, l2, hq2⟩ := box_any 58 x.cs w1
  refine WL.box rfl rfl rfl rb2 ?_
  obtain ⟨w3, q3, rn, b3, l3, hq3⟩ := newB (cs := Pc.z.cs) zv71 w2
  refine WL.new rfl rfl rn ?_
  have c1 := (b1.on l2).on l3
  have c2 := b2.on l3
  have z1 := b1.lt
  have z2 := b2.lt
  have n12 : q1 ≠ q2 := by omega
  have n13 : q1 ≠ q3 := by have := l2.size; omega
  have n23 : q2 ≠ q3 := by omega
  refine WL.done ?_
  refine EW.on ?_
  refine EW.seq ?_
  refine EW.region ?_
  refine WL.field rfl rfl rfl (f58_2 _ _) ?_
  refine WL.load rfl rfl rfl (ldI c2 x.c2) ?_
  refine WL.field rfl rfl rfl (f71_2 _ _) ?_
  refine WL.index rfl rfl rfl rfl (x68 _ _ hi _) ?_
  obtain ⟨w4, s4, d1, f4⟩ := stBo c1 (j := 9 + x.i) (by rw [Pc.len hp]; omega) true
  refine WL.store rfl rfl rfl s4 ?_
  have d2 := c2.fx f4 (fun e => n12 e.symm)
  have d3 := b3.fx f4 (fun e => n13 e.symm)
  refine WL.done ?_
  refine EW.on ?_
  refine EW.seq ?_
  refine EW.region ?_
  refine WL.field rfl rfl rfl (f58_2 _ _) ?_
  refine WL.load rfl rfl rfl (ldI d2 x.c2) ?_
  refine WL.field rfl rfl rfl (f58_4 _ _) ?_
  refine WL.load rfl rfl rfl (ldS d2 (Pi.c4 hx)) ?_
  refine WL.field rfl rfl rfl (f71_3 _ _) ?_
  refine WL.index rfl rfl rfl rfl (x69 _ _ hi _) ?_
  obtain ⟨w5, s5, e1, f5⟩ := d1.stS' (j := 73 + x.i) (by rw [List.length_set, Pc.len hp]; omega) hx.sl
  refine WL.store rfl rfl rfl s5 ?_
  rw [Pc.cs_put hp x.i hi x.v b] at e1
  have e3 := d3.fx f5 (fun e => n13 e.symm)
  refine WL.done ?_
  refine EW.on ?_
  refine EW.seq ?_
  refine EW.region ?_
  refine WL.load rfl rfl rfl (ld71 hn e1) ?_
  obtain ⟨w6, s6, g3, f6⟩ := st71 hn (Pc.sh0 (by decide) rfl) e3
  refine WL.store rfl rfl rfl s6 ?_
  refine WL.done ?_
  refine EW.on ?_
  refine EW.ret ?_
  exact EW.returnsC Tryd.results25 rfl g3 Tryd.underlying71 rfl (i71 hn) ⟨rfl, (bt (bt l1 l2) l3).trans (((f4.below (fun k hk e => by have e' : k = q1 := e; omega) (bt (bt l1 l2) l3).size).trans (f5.below (fun k hk e => by have e' : k = q1 := e; omega) (by have := f4.size; have := (bt (bt l1 l2) l3).size; omega))).trans (f6.below (fun k hk e => by have e' : k = q3 := e; have := (bt l1 l2).size; omega) (by have := f4.size; have := f5.size; have := (bt (bt l1 l2) l3).size; omega)))⟩
/-- The parts that have not come. -/
def Pc.mis (p : Pc) (n : Nat) : List Nat := (List.range n).filter fun i => !(p.h.getD i false)
def nI (l : List Nat) : List Int := l.map Int.ofNat
theorem Pc.mis_succ (p : Pc) (n : Nat) : p.mis (n + 1) = p.mis n ++ (if p.h.getD n false then [] else [n]) := by
  unfold Pc.mis
  rw [List.range_succ, List.filter_append]
  congr 1
  cases h : p.h.getD n false <;> simp only [List.filter_cons, List.filter_nil, h] <;> rfl
theorem Pc.mis_len (p : Pc) (n : Nat) : (p.mis n).length ≤ n := by
  unfold Pc.mis
  exact Nat.le_trans (List.length_filter_le _ _) (by simp)
def mE (q n : Nat) (x : Nat × Value) : List (Nat × Value) := [(3, x.2), (9, .slice (some ⟨q, 9, none⟩) n 64), (10, .int .i64 (n : Int)), (11, .int .i64 (x.1 : Int))]
structure MR (p : Pc) (w : World) (q : Nat) (x : Nat × Value) (W : World) : Prop where
  le : x.1 ≤ p.n
  bl : Blk W q p.cs 71
  oi : Oi W (w.heap.size + 1) x.2 (nI (p.mis x.1))
  be : Below w.heap.size w W
  sz : w.heap.size + 1 ≤ W.heap.size
set_option maxRecDepth 100000 in
set_option maxHeartbeats 4000000 in
theorem mis_any (p : Pc) (hp : p.sh) (w : World) : Calls Tryd.prog 29 #[p.val] w fun e w' => ∃ v, e = .returned v ∧ Oi w' w.heap.size v (nI (p.mis p.n)) ∧ Below w.heap.size w w' := by
  refine calls_of_args [p.val] Tryd.func29 rfl 24 Tryd.ntmps29 (by show 1 ≤ 24; decide) ?_
  refine EW.seq ?_
  refine EW.region ?_
  obtain ⟨w1, q, rb1, b1, l1, hq⟩ := box_any 71 p.cs w
  refine WL.box rfl rfl rfl rb1 ?_
  first | refine WL.assign rfl rfl rfl ?_
  refine WL.done ?_
  refine EW.on ?_
  refine EW.seq ?_
  refine EW.region ?_
  first | refine WL.assign rfl rfl rfl ?_
  refine WL.done ?_
  refine EW.on ?_
  refine EW.seq ?_
  refine EW.seq ?_
  refine EW.region ?_
  refine WL.field rfl rfl rfl (f71_2 _ _) ?_
  refine WL.field rfl rfl rfl (f71_0 _ _) ?_
  refine WL.load rfl rfl rfl (ldI b1 p.c0) ?_
  refine WL.sliceH rfl rfl rfl rfl (s68 _ _ hp.n2 _) ?_
  refine WL.len rfl rfl rfl (len107 _ _ _ _ _) ?_
  first | refine WL.move rfl rfl rfl ?_
  refine WL.done ?_
  refine EW.on ?_
  refine EW.block ?_
  refine EW.loop (mE q p.n) (MR p w q) (fun x => p.n - x.1) (0, .slice none 0 0) [3, 9, 10, 11] rfl ⟨Nat.zero_le _, b1, (show Oi w1 _ (.slice none 0 0) [] from Lb.nil _ _ _ _), l1, by have := b1.lt; omega⟩ ?_
  rintro x W hR
  show EW _ _ _ _ [(3, x.2), (9, .slice (some ⟨q, 9, none⟩) p.n 64), (10, .int .i64 (p.n : Int)), (11, .int .i64 (x.1 : Int))] _
  have hle := hR.le
  have hn2 := hp.n2
  have s1 : IntKind.i64.wrap ((x.1 : Int) + 1) = ((x.1 + 1 : Nat) : Int) := by rw [IntKind.wrap_i64]; omega
  refine EW.seq ?_
  refine EW.region ?_
  refine WL.bin rfl rfl rfl rfl (int_lt_d _ _ _ _ _) ?_
  refine WL.done ?_
  refine EW.on ?_
  refine EW.seq ?_
  refine EW.cond_d rfl (fun h12 => ?_) (fun h12 => ?_)
  · have ht : x.1 < p.n := by omega
    obtain ⟨b, hh⟩ : ∃ b, p.h[x.1]? = some b := ⟨_, List.getElem?_eq_getElem (by rw [hp.h]; omega)⟩
    have hg : p.h.getD x.1 false = b := by rw [List.getD_eq_getElem?_getD, hh]; rfl
    refine EW.skip ?_
    refine EW.on ?_
    refine EW.seq ?_
    refine EW.block ?_
    refine EW.seq ?_
    refine EW.region ?_
    first | refine WL.move rfl rfl rfl ?_
    refine WL.index rfl rfl rfl rfl (x107 _ _ _ _ ht _) ?_
    refine WL.load rfl rfl rfl (ldB hR.bl (Pc.c2 hp hh)) ?_
    first | refine WL.assign rfl rfl rfl ?_
    first | refine WL.assign rfl rfl rfl ?_
    refine WL.done ?_
    refine EW.on ?_
    refine EW.seq ?_
    refine EW.region ?_
    first | refine WL.move rfl rfl rfl ?_
    first | refine WL.un rfl rfl rfl (not_t _ _) ?_
    refine WL.done ?_
    refine EW.on ?_
    refine EW.cond_b rfl (fun h17 => ?_) (fun h17 => ?_)
    · refine EW.region ?_
      first | refine WL.move rfl rfl rfl ?_
      first | refine WL.move rfl rfl rfl ?_
      obtain ⟨s, W1, v2, W2, ra, rb, o2, be2, fx2, nw2⟩ := Oi.push hR.oi hR.sz (x.1 : Int) (by have := p.mis_len x.1; have := hp.n2; simp [nI]; omega) 23
      refine WL.bslN [(0, .int .i64 (x.1 : Int))] rfl rfl rfl ra ?_
      refine WL.app rfl rfl rfl rfl rb ?_
      first | refine WL.assign rfl rfl rfl ?_
      refine WL.done ?_
      refine pn_block ?_
      refine EW.on ?_
      refine EW.region ?_
      first | refine WL.bin rfl rfl rfl rfl (int_add ‹_› _ _ _) ?_
      first | refine WL.move rfl rfl rfl ?_
      refine WL.done ?_
      refine EW.again (x.1 + 1, v2) [3, 9, 10, 11] rfl ⟨by omega, hR.bl.fx fx2 (fun e => ?_), ?_, hR.be.trans (be2.mono (by omega)), by have := fx2.size; have := hR.sz; omega⟩ (by show p.n - (x.1 + 1) < p.n - x.1; omega)
      · have := hR.oi.base _ e; omega
      · show Oi W2 _ v2 (nI (p.mis (x.1 + 1)))
        rw [Pc.mis_succ, hg]
        have e : b = false := by simpa using h17
        rw [e]; simp only [nI, List.map_append]; exact o2
    · refine EW.skip ?_
      refine pn_block ?_
      refine EW.on ?_
      refine EW.region ?_
      first | refine WL.bin rfl rfl rfl rfl (int_add ‹_› _ _ _) ?_
      first | refine WL.move rfl rfl rfl ?_
      refine WL.done ?_
      refine EW.again (x.1 + 1, x.2) [3, 9, 10, 11] rfl ⟨by omega, hR.bl, ?_, hR.be, hR.sz⟩ (by show p.n - (x.1 + 1) < p.n - x.1; omega)
      show Oi W _ x.2 (nI (p.mis (x.1 + 1)))
      rw [Pc.mis_succ, hg]
      have e : b = true := by simpa using h17
      rw [e]; simpa using hR.oi
  · refine EW.exit ?_
    refine px_then ?_
    refine px_then ?_
    refine px_block ?_
    refine EW.on ?_
    refine EW.seq ?_
    refine EW.region ?_
    first | refine WL.move rfl rfl rfl ?_
    first | refine WL.assign rfl rfl rfl ?_
    refine WL.done ?_
    refine EW.on ?_
    refine EW.ret ?_
    exact EW.returns Tryd.results29 rfl ⟨x.2, rfl, ⟨(show x.1 = p.n by omega) ▸ hR.oi.ow, fun j hj => by have := hR.oi.base j hj; omega⟩, hR.be⟩
/-- Have all parts come? -/
def Pc.all (p : Pc) : Bool := decide ((p.mis p.n).length = 0)
set_option maxRecDepth 100000 in
set_option maxHeartbeats 1000000 in
theorem all_any (p : Pc) (hp : p.sh) (w : World) : Calls Tryd.prog 26 #[p.val] w fun e w' => e = .returned (.bool p.all) ∧ Below w.heap.size w w' := by
  refine calls_of_args [p.val] Tryd.func26 rfl 7 Tryd.ntmps26 (by show 1 ≤ 7; decide) ?_
  refine EW.seq ?_
  refine EW.region ?_
  obtain ⟨w1, q, rb1, b1, l1, hq⟩ := box_any 71 p.cs w
  refine WL.box rfl rfl rfl rb1 ?_
  first | refine WL.assign rfl rfl rfl ?_
  refine WL.done ?_
  refine EW.on ?_
  refine EW.seq ?_
  refine EW.region ?_
  refine WL.load rfl rfl rfl (ld71 hp b1) ?_
  refine WL.call [p.val] enter29 rfl rfl rfl (mis_any p hp _) ?_
  rintro _ w2 ⟨v, rfl, o2, l2⟩
  refine ⟨_, rfl, ?_⟩
  obtain ⟨ao, cp, hv⟩ := o2.slice
  rw [hv]
  refine WL.len rfl rfl rfl (len23 _ _ _ _ _) ?_
  refine WL.bin rfl rfl rfl rfl (int_eq_d _ _ _ _ _) ?_
  first | refine WL.assign rfl rfl rfl ?_
  refine WL.done ?_
  refine EW.on ?_
  refine EW.ret ?_
  exact EW.returns Tryd.results26 rfl ⟨by unfold Pc.all; congr 2; rw [decide_eq_decide]; simp only [nI, List.length_map]; omega, bt l1 l2⟩
end Go.Proofs.YtiefgmgjlhjjhaaDoor
