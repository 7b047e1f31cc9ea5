import Derived.Test.YtomioemhjhhbcaaGreatDoorFlG
import Derived.Test.YtomioemhjhhbcaaGreatDoorOrd
set_option linter.unusedVariables false
set_option linter.unusedSimpArgs false
namespace Go.Proofs.YtomioemhjhhbcaaGreatDoor
open Go.RowKit

/-- A sector while it is filled. -/
def secT (f : UInt8) (b : List UInt8) : Nat → List UInt8
  | 0 => List.replicate 512 0
  | t + 1 => (secT f b t).set t (if t < b.length then b.getD t 0 else f)
theorem secT_length (f : UInt8) (b : List UInt8) : ∀ t, (secT f b t).length = 512
  | 0 => by rw [secT, List.length_replicate]
  | t + 1 => by rw [secT, List.length_set, secT_length f b t]
/-- Full of a byte, begun with others. -/
def secL (f : UInt8) (b : List UInt8) : List UInt8 := secT f b 512
theorem secT_at (f : UInt8) (b : List UInt8) : ∀ t, t ≤ 512 → ∀ j, j < t → (secT f b t)[j]? = some (if j < b.length then b.getD j 0 else f)
  | 0, _, j, h => by omega
  | t + 1, ht, j, h => by
    rw [secT]
    by_cases hj : t = j
    · subst hj; rw [List.getElem?_set_self (by rw [secT_length]; omega)]
    · rw [List.getElem?_set_ne hj]; exact secT_at f b t (by omega) j (by omega)
theorem secL_length (f : UInt8) (b : List UInt8) : (secL f b).length = 512 := secT_length f b 512
theorem secL_full (f : UInt8) : secL f [] = List.replicate 512 f := by
  refine List.ext_getElem? fun j => ?_
  rcases Nat.lt_or_ge j 512 with h | h
  · rw [secL, secT_at f [] 512 (Nat.le_refl _) j h, List.getElem?_replicate_of_lt h, if_neg (by simp)]
  · rw [List.getElem?_eq_none (by rw [secL_length]; exact h), List.getElem?_eq_none (by rw [List.length_replicate]; exact h)]
theorem idx34 (ad : Addr) (n cap m : Nat) (h : m < n) (W : World) : (Instr.indexAt 50 (.slice (some ad) n cap) (.int .i64 (m : Int))).run Tryz.prog W = .ok (.pointer (some (ad.add m))) W := by
  have hm : (m : Int) < (n : Int) := by omega
  go_simp
  try simp
theorem idx34b (g n cap m : Nat) (h : m < n) (W : World) : (Instr.indexAt 50 (.slice (some ⟨g, 0, none⟩) n cap) (.int .i64 (m : Int))).run Tryz.prog W = .ok (.pointer (some ⟨g, m, none⟩)) W := by
  rw [idx34 ⟨g, 0, none⟩ n cap m h W, add_plain]
theorem byts_set (L : List UInt8) (j : Nat) (u : UInt8) : (L.map byt).set j (.int .u8 (u.toNat : Int)) = (L.set j u).map byt := by
  rw [List.map_set]; rfl
theorem alloc_set (w : World) (L : List UInt8) (g j : Nat) (u : UInt8) (h : w.heap.size = g) : (w.alloc (.cells (L.map byt).toArray 5)).setCell ⟨g, j, none⟩ (.int .u8 (u.toNat : Int)) = w.alloc (.cells ((L.set j u).map byt).toArray 5) := by
  rw [← h, alloc_setCell, byts_set]
end Go.Proofs.YtomioemhjhhbcaaGreatDoor

set_option linter.unusedVariables false
set_option linter.unusedSimpArgs false
namespace Go.Proofs.YtomioemhjhhbcaaGreatDoor
open Go.RowKit

theorem nwR_le : ∀ (l : List (Nat × List UInt8)) (i : Nat), nwR l i ≤ l.length
  | [], _ => Nat.le_refl _
  | x :: r, i => by
    rw [nwR, List.length_cons]
    split
    · omega
    · have := nwR_le r i; omega
theorem nw_le (pen : List (Nat × List UInt8)) (i : Nat) : nw pen i ≤ pen.length := by
  have := nwR_le pen.reverse i
  simpa [nw] using this
/-- What is read of a sector. -/
def readB (D : Dv) (i : Nat) : List UInt8 := if nw D.pen i = 0 then (D.img.drop (i * 512)).take 512 else (D.pen.getD (nw D.pen i - 1) (0, [])).2
theorem readB_length (D : Dv) (h : D.ok) (i : Nat) (hi : i < D.n) : (readB D i).length = 512 := by
  unfold readB
  split
  · have := h.len
    simp; omega
  · have hl := nw_le D.pen i
    rw [List.getD_eq_getElem?_getD, List.getElem?_eq_getElem (by omega)]
    exact (h.sec _ (List.getElem_mem _)).2
theorem read_no {w : World} {L : Lay} {D : Dv} (h : Dev w L D) (i : Int) (hr : refE D i ≠ 0) : Calls Tryz.prog 70 #[.pointer (some ⟨L.p, 0, none⟩), .int .i64 i] w fun e w' => e = .returned (.tuple #[.slice none 0 0, .int .i64 (refE D i)]) ∧ w' = w := by
  have hf := hide (refusal_any h i)
  clear h
  obtain ⟨E, hE⟩ : ∃ E, refE D i = E := ⟨_, rfl⟩
  rw [hE] at hr hf ⊢
  clear hE
  go_enter Tryz.func70, Tryz.ntmps70
  go_wp2_with (first
    | (go_at_call 83; refine hf.out.mono ?_; rintro e w3 ⟨rfl, rfl⟩)
    | fail)
  go_ret2
  exact ⟨rfl, rfl⟩
set_option maxRecDepth 100000 in
set_option maxHeartbeats 1000000 in
theorem read_ok {w : World} {L : Lay} {D : Dv} (h : Dev w L D) (hd : D.down = false) (i : Nat) (hi : i < D.n) : Calls Tryz.prog 70 #[.pointer (some ⟨L.p, 0, none⟩), .int .i64 (i : Int)] w fun e w' => e = .returned (.tuple #[.slice (some ⟨w.heap.size, 0, none⟩) 512 512, .int .i64 0]) ∧ w' = w.alloc (.cells ((readB D i).map byt).toArray 5) := by
  have hf := refusal_any h (i : Int)
  rw [show refE D (i : Int) = 0 by unfold refE; rw [hd]; simp; omega] at hf
  have HF := hide hf
  have hc1 := h.c1
  have hc2 := h.c2
  have hix := fun W => idx73 L.gn D.n i hi W
  have hnw := (h.new.cell i).trans (nwC_at D.n _ i hi)
  have hbl := readB_length D h.ok i hi
  by_cases hz : nw D.pen i = 0
  · have hdu := hide (durable_any h.c0 i hi h.ok.n2)
    have hs : Has w (secV L.gi D.n i) (readB D i) := by
      refine .inr ⟨⟨L.gi, i * 512, none⟩, D.n * 512 - i * 512, by rw [hbl]; rfl, by rw [hbl]; omega, fun j u hu => ?_⟩
      rw [add_off, h.img.cell, List.getElem?_map]
      rw [readB, if_pos hz] at hu
      have hj : j < 512 := by
        rcases Nat.lt_or_ge j 512 with h1 | h1
        · exact h1
        · rw [List.getElem?_eq_none (by simp; omega)] at hu; cases hu
      rw [List.getElem?_take_of_lt hj, List.getElem?_drop] at hu
      rw [hu]; rfl
    have hcp := copied_any _ (readB D i) (by omega) w hs
    rw [hbl] at hcp
    have HCP := hide hcp
    obtain ⟨V, hV⟩ : ∃ V, secV L.gi D.n i = V := ⟨_, rfl⟩
    rw [hV] at hdu HCP
    rw [hz] at hnw
    clear h hf hcp hs hV hbl hi
    go_enter Tryz.func70, Tryz.ntmps70
    go_wp2_with (first
      | (go_at_call 83; refine HF.out.mono ?_; rintro e w3 ⟨rfl, hz3⟩; rw [hz3]; clear hz3 w3)
      | (go_at_call 84; refine hdu.out.mono ?_; rintro e w3 ⟨rfl, hz3⟩; rw [hz3]; clear hz3 w3)
      | (go_at_call 50; refine HCP.out.mono ?_; rintro e w3 ⟨rfl, rfl⟩)
      | fail)
    go_ret2
    exact ⟨rfl, rfl⟩
  · have hl := nw_le D.pen i
    obtain ⟨k, hk⟩ : ∃ k, nw D.pen i = k + 1 := ⟨nw D.pen i - 1, by omega⟩
    obtain ⟨x, hx⟩ : ∃ x, D.pen[k]? = some x := ⟨D.pen[k]'(by omega), List.getElem?_eq_getElem _⟩
    obtain ⟨gb, hgb⟩ : ∃ g, L.gs[k]? = some g := ⟨L.gs[k]'(by rw [h.gsl]; omega), List.getElem?_eq_getElem _⟩
    obtain ⟨g, hgo, hix2, hrg⟩ := pen_item h.pen k gb x hgb hx
    have hcell : w.cell? ⟨g, k * 2 + 1, none⟩ = some (.slice (some ⟨gb, 0, none⟩) 512 512) := hrg 1 _ rfl
    have hrb : readB D i = x.2 := by rw [readB, if_neg hz, hk, Nat.add_sub_cancel, List.getD_eq_getElem?_getD, hx]; rfl
    have hb := h.bys k gb x hgb hx
    have hs : Has w (.slice (some ⟨gb, 0, none⟩) 512 512) (readB D i) := .inr ⟨⟨gb, 0, none⟩, 512, by rw [hbl], by rw [hbl]; omega, fun j u hu => by rw [hrb] at hu; rw [add_plain, hb.cell, List.getElem?_map, hu]; rfl⟩
    have hcp := copied_any _ (readB D i) (by omega) w hs
    rw [hbl] at hcp
    have HCP := hide hcp
    rw [hk] at hnw
    have p1 : (0 : Int) < ((k + 1 : Nat) : Int) := by omega
    have p2 : ((k + 1 : Nat) : Int) - 1 = (k : Int) := by omega
    have p3 : wrap64 (((k + 1 : Nat) : Int) - 1) = (k : Int) := by rw [p2]; exact IntWalk.wrap64_in _ (by have := h.ok.few; omega)
    have p4 : wrap64 (k : Int) = (k : Int) := IntWalk.wrap64_in _ (by have := h.ok.few; omega)
    obtain ⟨k1, hk1⟩ : ∃ k1, k + 1 = k1 := ⟨_, rfl⟩
    rw [hk1] at hnw p1 p2 p3
    clear h hf hcp hs hbl hi hk1 hk hl hz hrb hb hrg hgo
    go_enter Tryz.func70, Tryz.ntmps70
    go_wp2_with (first
      | (go_at_call 83; refine HF.out.mono ?_; rintro e w3 ⟨rfl, hz3⟩; rw [hz3]; clear hz3 w3)
      | (go_at_call 50; refine HCP.out.mono ?_; rintro e w3 ⟨rfl, rfl⟩)
      | fail)
    go_ret2
    exact ⟨rfl, rfl⟩
end Go.Proofs.YtomioemhjhhbcaaGreatDoor

set_option linter.unusedVariables false
set_option linter.unusedSimpArgs false
namespace Go.Proofs.YtomioemhjhhbcaaGreatDoor
open Go.RowKit

/-- Without its loss. -/
def unkL (L : Lay) : Lay := ⟨L.p, L.gi, L.gn, L.vp, .slice none 0 0, L.gs⟩
theorem unk_own (L : Lay) (k : Nat) (h : (unkL L).F k) : L.F k := by
  rcases h with h | h | h | h | h | h
  · exact .inl h
  · exact .inr (.inl h)
  · exact .inr (.inr (.inl h))
  · exact .inr (.inr (.inr (.inl h)))
  · simp [unkL, Value.ownBlock] at h
  · exact .inr (.inr (.inr (.inr (.inr h))))
/-- It runs again. -/
def upD (D : Dv) : Dv := ⟨D.n, D.img, D.pen, 0, [], 0, 0, false, D.calls⟩
/-- Behind a disarming. -/
theorem Dev.disarmed {w w' : World} {L : Lay} {D : Dv} (h : Dev w L D) (hf : Fx (One L.p) w w') (down : Bool) (hP : Blk w' L.p (dvC L.gi D.n L.vp L.gn 0 (.slice none 0 0) 0 0 down D.calls) 81) : Dev w' (unkL L) ⟨D.n, D.img, D.pen, 0, [], 0, 0, down, D.calls⟩ :=
  { dev := hP, img := h.img.fx hf (Ne.symm h.pi), new := h.new.fx hf (Ne.symm h.pn), pen := ownsRow_fx h.pen hf (fun k hk e => (h.vpn k hk).1 e),
    bys := fun k g x h1 h2 => (h.bys k g x h1 h2).fx hf (fun e => (h.gsn g (List.mem_of_getElem? h1)).1 e), gsl := h.gsl, kp := Has64.nil _,
    ok := ⟨h.ok.n1, h.ok.n2, h.ok.len, h.ok.sec, h.ok.few, h.ok.cal⟩, pi := h.pi, pn := h.pn, inn := h.inn,
    vpn := fun k hk => ⟨(h.vpn k hk).1, (h.vpn k hk).2.1, (h.vpn k hk).2.2.1, by simp [unkL, Value.ownBlock], (h.vpn k hk).2.2.2.2⟩,
    vkn := fun k hk => by simp [unkL, Value.ownBlock] at hk,
    gsn := fun k hk => ⟨(h.gsn k hk).1, (h.gsn k hk).2.1, (h.gsn k hk).2.2.1, Nat.lt_of_lt_of_le (h.gsn k hk).2.2.2 hf.size⟩ }
end Go.Proofs.YtomioemhjhhbcaaGreatDoor

set_option linter.unusedVariables false
set_option linter.unusedSimpArgs false
namespace Go.Proofs.YtomioemhjhhbcaaGreatDoor
open Go.RowKit

section
variable {P : Program} {ops : Array Oper}
theorem OpTo.mks {o : Oper} {a : Act} {w w1 : World} (t : TypeId) (x y : Operand) (ho : o.op = .makeSlice t x y) (u u' v : Value) (hx : a.eval x = u) (hy : a.eval y = u') (h : (Instr.makeSlice t u u').run P w = .ok v w1) : OpTo P o a w v (fun W => W = w1) := by
  refine .inl ⟨w1, ?_, rfl⟩
  unfold execOp
  simp only [ho, hx, hy, Sem.run_bind, h, Result.andThen_ok, Sem.run_pure]
theorem OpTo.storeMid {op : Oper} {a : Act} {w : World} (ty : TypeId) (x y : Operand) (ho : op.op = .store ty x y) (b o : Nat) (cs : List Value) (hx : a.eval x = .pointer (some ⟨b, o, none⟩)) (hy : a.eval y = .agg cs.toArray)
    (ht : w.there b o cs.length) (hi : (P.info? ty).map (·.size) = some cs.length) (h1 : cs.toArray.all (·.oneCell') = true) : OpTo P op a w undef (fun W => W = w.setCells b o cs) := by
  refine .inr (.inl ⟨rfl, _, ?_, rfl⟩)
  unfold execOp
  simp only [ho, hx, hy, Instr.storeAt, Instr.sureAddr, Sem.run_bind, Sem.run_pure, Result.andThen_ok, run_storeVar_mid w b o ty cs.toArray (by simpa using ht) (by simpa using hi) h1]
theorem OpTo.copy {o : Oper} {a : Act} {w w1 : World} (t s : TypeId) (x y : Operand) (ho : o.op = .call { callee := .builtin .copy, args := #[x, y], argTypes := #[t, s] }) (u u' v : Value) (hx : a.eval x = u) (hy : a.eval y = u') (h : (Builtin.copy_ #[t, s] o.type #[u, u']).run P w = .ok v w1) : OpTo P o a w v (fun W => W = w1) := by
  refine .inl ⟨w1, ?_, rfl⟩
  simp [execOp, ho, resolve, invoke, builtin, hx, hy, h, Result.andThen]
theorem OpTo.build3 {o : Oper} {a : Act} {w : World} (t : TypeId) (x y z : Operand) (ho : o.op = .build t #[(0, x), (1, y), (2, z)]) (u u' u'' v : Value) (hx : a.eval x = u) (hy : a.eval y = u') (hz : a.eval z = u'') (h : (Instr.build t #[(0, u), (1, u'), (2, u'')]).run P w = .ok v w) : OpTo P o a w v (fun W => W = w) := by
  refine .inl ⟨w, ?_, rfl⟩
  unfold execOp
  simp only [ho, List.map_toArray, List.map_cons, List.map_nil, hx, hy, hz, Sem.run_bind, h, Result.andThen_ok, Sem.run_pure]
end
theorem build38s (ad : Option Addr) (l c : Nat) (t o : Int) (W : World) : (Instr.build 70 #[(0, .slice ad l c), (1, .int .i64 t), (2, .int .i64 o)]).run Tryz.prog W = .ok (.agg (lossC (.slice ad l c) t o).toArray) W := by kernel_rfl
theorem lossC_oneA (ad : Option Addr) (l c : Nat) (t o : Int) : (lossC (.slice ad l c) t o).toArray.all (·.oneCell') = true := all_oneCell_toArray fun v hv => by
  simp only [lossC, List.mem_cons, List.not_mem_nil, or_false] at hv
  rcases hv with rfl | rfl | rfl <;> rfl
/-- Armed with a loss. -/
def armD (D : Dv) (step : Nat) (ks : List (BitVec 64)) (torn off : Int) : Dv := ⟨D.n, D.img, D.pen, step, ks, torn, off, D.down, D.calls⟩
def armL (L : Lay) (v : Value) : Lay := ⟨L.p, L.gi, L.gn, L.vp, v, L.gs⟩
theorem Has64.len2 {w : World} {v : Value} {bs : List (BitVec 64)} (h : Has64 w v bs) : ∀ W ty, (Builtin.len_ #[68] ty #[v]).run Tryz.prog W = .ok (.int .i64 (bs.length : Int)) W := fun W ty => h.len W ty
/-- Behind an arming. -/
theorem Dev.armed {w w' : World} {L : Lay} {D : Dv} (h : Dev w L D) (g : Nat) (hg : w.heap.size ≤ g) (hgl : g < w'.heap.size) (hf : Fx (One L.p) w w') (step : Nat) (ks : List (BitVec 64)) (torn off : Int) (hP : Blk w' L.p (dvC L.gi D.n L.vp L.gn step (.slice (some ⟨g, 0, none⟩) ks.length ks.length) torn off D.down D.calls) 81) (hK : Blk w' g (ks.map wv) 167) : Dev w' (armL L (.slice (some ⟨g, 0, none⟩) ks.length ks.length)) (armD D step ks torn off) :=
  { dev := hP, img := h.img.fx hf (Ne.symm h.pi), new := h.new.fx hf (Ne.symm h.pn), pen := ownsRow_fx h.pen hf (fun k hk e => (h.vpn k hk).1 e),
    bys := fun k g x h1 h2 => (h.bys k g x h1 h2).fx hf (fun e => (h.gsn g (List.mem_of_getElem? h1)).1 e), gsl := h.gsl,
    kp := .inr ⟨⟨g, 0, none⟩, ks.length, rfl, Nat.le_refl _, fun i u hu => by
      have hu2 : ks[i]? = some u := hu
      rw [add_plain, hK.cell, List.getElem?_map, hu2]; rfl⟩,
    ok := ⟨h.ok.n1, h.ok.n2, h.ok.len, h.ok.sec, h.ok.few, h.ok.cal⟩, pi := h.pi, pn := h.pn, inn := h.inn,
    vpn := fun k hk => ⟨(h.vpn k hk).1, (h.vpn k hk).2.1, (h.vpn k hk).2.2.1, fun e => by
      have h1 := ownsRow_lt h.pen k hk
      simp [armL, Value.ownBlock] at e
      omega, (h.vpn k hk).2.2.2.2⟩,
    vkn := fun k hk => by
      have e : g = k := by simpa [armL, Value.ownBlock] using hk
      have h1 := h.dev.lt
      have h2 := h.img.lt
      have h3 := h.new.lt
      refine ⟨?_, ?_, ?_, by omega⟩ <;> simp only [armL] <;> omega,
    gsn := fun k hk => ⟨(h.gsn k hk).1, (h.gsn k hk).2.1, (h.gsn k hk).2.2.1, Nat.lt_of_lt_of_le (h.gsn k hk).2.2.2 hf.size⟩ }
theorem Fx.new {S : Nat → Prop} (w : World) (o : Obj) : Fx S w (w.alloc o) := Fx.of_below (below_new w o)
end Go.Proofs.YtomioemhjhhbcaaGreatDoor
