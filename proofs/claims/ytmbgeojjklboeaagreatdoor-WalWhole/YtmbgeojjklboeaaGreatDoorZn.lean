import Derived.Test.YtmbgeojjklboeaaGreatDoorZmG
set_option linter.unusedVariables false
set_option linter.unusedSimpArgs false
namespace Go.Proofs.YtmbgeojjklboeaaGreatDoor
open Go.RowKit

/-- What 'wanted' holds while it runs. -/
structure WdS (w W : World) (tc : List Value) (q3 qd : Nat) (D : List Value) (A : List (List UInt8)) (vo va : Value) (lo : List Pw) : Prop where
  be : Below w.heap.size w W
  b3 : Blk W q3 tc 33
  bd : Blk W qd D 4
  pw : Pws W vo lo
  ob : ∀ z ∈ lo, Ob W w.heap.size z.v z.b
  os : Os W w.heap.size va A
  fo : ∀ k, vo.ownBlock = some k → w.heap.size ≤ k
section
variable {w W W' : World} {tc : List Value} {q3 qd : Nat} {D : List Value} {A : List (List UInt8)} {vo va : Value} {lo : List Pw}
theorem WdS.fx {S : Nat → Prop} (h : WdS w W tc q3 qd D A vo va lo) (f : Fx S W W') (hS : ∀ k, S k → w.heap.size ≤ k) (h3 : ¬ S q3) (hd : ¬ S qd) (hv : ∀ k, vo.ownBlock = some k → ¬ S k) (hp : ∀ z ∈ lo, ∀ k, z.v.ownBlock = some k → ¬ S k) (ha : ∀ k, va.ownBlock = some k → ¬ S k) : WdS w W' tc q3 qd D A vo va lo :=
  ⟨h.be.trans (f.below (fun k hk e => by have := hS k e; omega) h.be.size), h.b3.fx f h3, h.bd.fx f hd, h.pw.fx f hv hp, fun z hz => (h.ob z hz).fx f (fun k hk e => hp z hz k e hk), h.os.fx f ha, h.fo⟩
theorem WdS.on (h : WdS w W tc q3 qd D A vo va lo) (hb : Below W.heap.size W W') : WdS w W' tc q3 qd D A vo va lo :=
  h.fx (S := fun _ => False) (Fx.of_below hb) (fun _ s => s.elim) (fun s => s) (fun s => s) (fun _ _ s => s) (fun _ _ _ _ s => s) (fun _ _ s => s)
theorem WdS.obt (h : WdS w W tc q3 qd D A vo va lo) {z : Pw} (hz : z ∈ lo) {k : Nat} (hk : z.v.ownBlock = some k) : ∃ cur, W.heap[k]? = some (.cells cur 5 (0, 0)) := own_type (h.ob z hz).row hk
theorem WdS.fx26 (h : WdS w W tc q3 qd D A vo va lo) {q : Nat} {cs : List Value} (hq : Blk W q cs 55) (hqn : w.heap.size ≤ q) (f : Fx (fun k => k = q) W W') : WdS w W' tc q3 qd D A vo va lo :=
  h.fx f (fun k e => by have e : k = q := e; omega) (ne_type ⟨_, h.b3⟩ hq (by decide)) (ne_type ⟨_, h.bd⟩ hq (by decide)) (fun k hk => ne_type (own_type h.pw.row hk) hq (by decide)) (fun z hz k hk => ne_type (h.obt hz hk) hq (by decide)) (fun k hk => ne_type (own_type h.os.row hk) hq (by decide))
theorem WdS.fxd (h : WdS w W tc q3 qd D A vo va lo) (hqn : w.heap.size ≤ qd) {D' : List Value} (f : Fx (fun k => k = qd) W W') (hd' : Blk W' qd D' 4) : WdS w W' tc q3 qd D' A vo va lo := by
  have hq := h.bd
  exact ⟨h.be.trans (f.below (fun k hk e => by have e : k = qd := e; omega) h.be.size), h.b3.fx f (ne_type ⟨_, h.b3⟩ hq (by decide)), hd', h.pw.fx f (fun k hk => ne_type (own_type h.pw.row hk) hq (by decide)) (fun z hz k hk => ne_type (h.obt hz hk) hq (by decide)), fun z hz => (h.ob z hz).fx f (fun k e hk => ne_type (h.obt hz hk) hq (by decide) e), h.os.fx f (fun k hk => ne_type (own_type h.os.row hk) hq (by decide)), h.fo⟩
theorem WdS.fxa (h : WdS w W tc q3 qd D A vo va lo) {A' : List (List UInt8)} (f : Fx (fun k => va.ownBlock = some k) W W') (ho : Os W' w.heap.size va A') : WdS w W' tc q3 qd D A' vo va lo := by
  have hq : ∀ k, va.ownBlock = some k → ∃ cur, W.heap[k]? = some (.cells cur 9 (0, 0)) := fun k hk => own_type h.os.row hk
  exact ⟨h.be.trans (f.below (fun k hk e => by have := h.os.base k e; omega) h.be.size), h.b3.fx f (fun e => ne_type2 (hq _ e) ⟨_, h.b3⟩ (by decide) rfl), h.bd.fx f (fun e => ne_type2 (hq _ e) ⟨_, h.bd⟩ (by decide) rfl), h.pw.fx f (fun k hk e => ne_type2 (hq _ e) (own_type h.pw.row hk) (by decide) rfl) (fun z hz k hk e => ne_type2 (hq _ e) (h.obt hz hk) (by decide) rfl), fun z hz => (h.ob z hz).fx f (fun k e hk => ne_type2 (hq _ e) (h.obt hz hk) (by decide) rfl), ho, h.fo⟩
theorem WdS.fxo (h : WdS w W tc q3 qd D A vo va lo) {vo' : Value} {x : Pw} (f : Fx (fun k => vo.ownBlock = some k) W W') (hp : Pws W' vo' (lo ++ [x])) (hx : Ob W w.heap.size x.v x.b) (hf : ∀ k, vo'.ownBlock = some k → vo.ownBlock = some k ∨ W.heap.size ≤ k) : WdS w W' tc q3 qd D A vo' va (lo ++ [x]) := by
  have hq : ∀ k, vo.ownBlock = some k → ∃ cur, W.heap[k]? = some (.cells cur 98 (0, 0)) := fun k hk => own_type h.pw.row hk
  refine ⟨h.be.trans (f.below (fun k hk e => by have := h.fo k e; omega) h.be.size), h.b3.fx f (fun e => ne_type2 (hq _ e) ⟨_, h.b3⟩ (by decide) rfl), h.bd.fx f (fun e => ne_type2 (hq _ e) ⟨_, h.bd⟩ (by decide) rfl), hp, fun z hz => ?_, h.os.fx f (fun k hk e => ne_type2 (hq _ e) (own_type h.os.row hk) (by decide) rfl), fun k hk => ?_⟩
  · rcases List.mem_append.1 hz with e | e
    · exact (h.ob z e).fx f (fun k e2 hk => ne_type2 (hq _ e2) (h.obt e hk) (by decide) rfl)
    · rw [List.mem_singleton.1 e]
      exact hx.fx f (fun k e2 hk => ne_type2 (hq _ e2) (own_type hx.row hk) (by decide) rfl)
  · rcases hf k hk with e | e
    · exact h.fo k e
    · have := h.be.size; omega
end
theorem Os.mono {w : World} {b b' : Nat} {v : Value} {xs : List (List UInt8)} (h : Os w b v xs) (hb : b' ≤ b) : Os w b' v xs := ⟨h.row, fun k hk => Nat.le_trans hb (h.base k hk)⟩
theorem mk76 (w : World) (p : Nat) (hp : p ≤ 1000) : ∃ w1 q, (Instr.makeSlice 103 (.int .i64 (p : Int)) (.int .i64 (p : Int))).run Tryz.prog w = .ok (.slice (some ⟨q, 0, none⟩) p p) w1 ∧ Blk w1 q (List.replicate p (Value.bool false)) 4 ∧ Below w.heap.size w w1 ∧ q = w.heap.size :=
  ⟨_, _, run_mk114 w p (by omega), Blk.new _ _ _, below_new _ _, rfl⟩
theorem wantP_len (p : Nat) (gs : List Gp) : (wantP p gs).length ≤ gs.length := by
  have : ∀ (gs : List Gp) (acc : List (Nat × UInt8)), (gs.foldl (wStep p) acc).length ≤ acc.length + gs.length := fun gs => by
    induction gs with
    | nil => intro acc; simp
    | cons g r ih =>
      intro acc
      have h1 := ih (wStep p acc g)
      have h2 := wStep_len p acc g
      rw [List.foldl_cons, List.length_cons]
      omega
  have := this gs []
  simpa [wantP] using this
def wdE (q q3 qd p : Nat) (x : Nat × Value × Value × List Pw) : List (Nat × Value) := [(0, .pointer (some ⟨q, 0, none⟩)), (3, .pointer (some ⟨q3, 0, none⟩)), (6, x.2.1), (7, x.2.2.1), (8, .slice (some ⟨qd, 0, none⟩) p p), (9, .int .i64 (x.1 : Int))]
structure WdR (w : World) (gs : List Gp) (p : Nat) (ps : List (List UInt8)) (tc : List Value) (q3 qd : Nat) (x : Nat × Value × Value × List Pw) (W : World) : Prop where
  s : WdS w W tc q3 qd (dnC p (wantP p (gs.take x.1))) (aftL ps (wantP p (gs.take x.1))) x.2.1 x.2.2.1 x.2.2.2
  t1 : x.1 ≤ gs.length
  t2 : x.1 ≤ 20
  eq : x.2.2.2.map (fun z => (z.n, z.b)) = (wantP p (gs.take x.1)).map (fun a => (a.1, pgB a.1 a.2))
  lt : ∀ a ∈ wantP p (gs.take x.1), a.1 < p
set_option maxRecDepth 100000 in
set_option maxHeartbeats 1000000 in
theorem wanted_ok {w : World} {q p more b : Nat} {d l : Option Addr} {v0 : Value} {ps : List (List UInt8)} (hb : Blk w q (rmC d l p more v0) 40) (hs : Os w b v0 ps) (hpp : ps.length = p) (hp0 : 0 < p) (hp : p ≤ 1000) {vp vf : Value} {cr an : Bool} {gs : List Gp} (hg0 : Gs w vp gs) : Calls Tryz.prog 19 #[.pointer (some ⟨q, 0, none⟩), .agg (tnC vp vf cr an).toArray] w fun e w' => ∃ vo va lo, e = .returned (.tuple #[vo, va]) ∧ Pws w' vo lo ∧ lo.map (fun z => (z.n, z.b)) = (wantP p (gs.take 20)).map (fun a => (a.1, pgB a.1 a.2)) ∧ (∀ z ∈ lo, Ob w' w.heap.size z.v z.b) ∧ (∀ k, vo.ownBlock = some k → w.heap.size ≤ k) ∧ Os w' w.heap.size va (aftL ps (wantP p (gs.take 20))) ∧ Below w.heap.size w w' := by
  obtain ⟨w3, q3, r3, b3, l3, hq3⟩ := box34 vp vf cr an w
  obtain ⟨va, w4, ra, oa, la⟩ := (hs.below l3).clone (by omega) 38
  have l34 := l3.trans (la.mono l3.size)
  obtain ⟨w5, qd, r5, b5, l5, hqd0⟩ := mk76 w4 p (by omega)
  have l45 := l34.trans (l5.mono l34.size)
  have hqd : w.heap.size ≤ qd := by have := l34.size; omega
  obtain ⟨ao, cv, hvp⟩ := hg0.sl
  refine calls_of_args [.pointer (some ⟨q, 0, none⟩), .agg (tnC vp vf cr an).toArray] Tryz.func19 rfl 74 Tryz.ntmps19 (by show 2 ≤ 74; decide) ?_; refine EW.seq ?_; refine EW.region ?_; refine WL.box rfl rfl rfl r3 ?_; refine WL.assign rfl rfl rfl ?_; refine WL.assign rfl rfl rfl ?_; refine WL.done ?_; refine EW.on ?_; refine EW.seq ?_; refine EW.region ?_; refine WL.assign rfl rfl rfl ?_; refine WL.done ?_; refine EW.on ?_; refine EW.seq ?_; refine EW.region ?_; refine WL.assign rfl rfl rfl ?_; refine WL.done ?_; refine EW.on ?_; refine EW.seq ?_; refine EW.region ?_; refine WL.move rfl rfl rfl ?_; refine WL.move rfl rfl rfl ?_; refine WL.nilc rfl rfl rfl ?_; refine WL.field rfl rfl rfl (fld44 q 4 (by decide) _) ?_; refine WL.load rfl rfl rfl (ldc42 (hb.on l3) rfl) ?_; refine WL.appR rfl rfl rfl rfl ra ?_; refine WL.assign rfl rfl rfl ?_; refine WL.done ?_; refine EW.on ?_; refine EW.seq ?_; refine EW.region ?_; refine WL.move rfl rfl rfl ?_; refine WL.nilc rfl rfl rfl ?_; refine WL.field rfl rfl rfl (fld44 q 2 (by decide) _) ?_; refine WL.load rfl rfl rfl (ldc3 (hb.on l34) rfl) ?_; refine WL.mks rfl rfl rfl rfl r5 ?_; refine WL.assign rfl rfl rfl ?_; refine WL.done ?_; refine EW.on ?_; refine EW.seq ?_; refine EW.seq ?_; refine EW.region ?_; refine WL.assign rfl rfl rfl ?_; refine WL.done ?_; refine EW.on ?_; refine EW.block ?_; refine EW.loop (wdE q q3 qd p) (WdR w gs p ps (tnC vp vf cr an) q3 qd) (fun x => gs.length - x.1) (0, .slice none 0 0, va, []) [0, 3, 6, 7, 8, 9] rfl ⟨⟨l45, (b3.on la).on l5, by show Blk _ _ (dnC p []) 4; rw [dnC_nil]; exact b5, ⟨⟨rfl, .inl ⟨rfl, rfl⟩⟩, fun z hz => by cases hz⟩, fun z hz => (by cases hz), (oa.below l5).mono l3.size, fun k hk => by cases hk⟩, Nat.zero_le _, Nat.zero_le _, rfl, fun a ha => by cases ha⟩ ?_
  rintro ⟨t, vo, va, lo⟩ wi ⟨st, ht1, ht2, heq, hlt2⟩
  simp only at st ht1 ht2 heq hlt2
  show EW _ _ _ _ [(0, .pointer (some ⟨q, 0, none⟩)), (3, .pointer (some ⟨q3, 0, none⟩)), (6, vo), (7, va), (8, .slice (some ⟨qd, 0, none⟩) p p), (9, .int .i64 (t : Int))] _
  refine EW.seq ?_; refine EW.seq ?_
  rcases Nat.lt_or_ge t gs.length with hlt | hge
  · refine EW.region ?_; refine WL.move rfl rfl rfl ?_; refine WL.field rfl rfl rfl (fldT q3 0 (by decide) _) ?_; refine WL.load rfl rfl rfl (ldG st.b3 rfl) ?_; refine WL.len rfl rfl rfl (by rw [hvp]; exact len31 _ _ _ _ _) ?_; refine WL.bin rfl rfl rfl rfl (int_lt_t (by omega) _ _ _) ?_; refine WL.move rfl rfl rfl ?_
    first | refine WL.move rfl rfl rfl ?_ | refine WL.skip _ rfl rfl rfl ?_
    refine WL.bin rfl rfl rfl rfl (int_lt_d _ _ _ _ _) ?_; refine WL.pick rfl rfl rfl rfl ?_; refine WL.done ?_; refine EW.on ?_; refine EW.cond_d rfl (fun h31 => ?_) (fun h31 => ?_)
    · refine EW.skip ?_; refine EW.on ?_; refine EW.seq ?_; refine EW.block ?_; refine EW.seq ?_
      obtain ⟨g, hg⟩ : ∃ g, gs[t]? = some g := ⟨_, List.getElem?_eq_getElem hlt⟩
      have hn := pickN_lt g.num p hp0
      obtain ⟨ad, ixg, lxg⟩ := hg0.at_ t g hg
      obtain ⟨w1, q10, n1, c1, l1, hq10⟩ := new26 wi
      obtain ⟨w2, n2, c2, f2⟩ := st26 g c1 rfl
      replace hq10 : w.heap.size ≤ q10 := by have := st.be.size; omega
      have s2 := (st.on l1).fx26 c1 hq10 f2
      have hlen : lo.length ≤ 20 := by
        have e := congrArg List.length heq
        rw [List.length_map, List.length_map] at e
        have := wantP_len p (gs.take t)
        rw [List.length_take] at this
        omega
      refine EW.region ?_; refine WL.field rfl rfl rfl (fldT q3 0 (by decide) _) ?_; refine WL.load rfl rfl rfl (ldG st.b3 rfl) ?_; refine WL.move rfl rfl rfl ?_; refine WL.index rfl rfl rfl rfl (ixg _) ?_; refine WL.load rfl rfl rfl (lxg _ st.be) ?_; refine WL.new rfl rfl n1 ?_; refine WL.store rfl rfl rfl n2 ?_; refine WL.done ?_; refine EW.on ?_; refine EW.seq ?_; refine EW.ordB [(0, 0, 0), (1, 0, 1), (2, 0, 0), (3, 0, 0), (4, 0, 0), (5, 0, 1), (6, 1, 1), (7, 0, 0), (8, 1, 0)] (by kernel_rfl) rfl (by kernel_rfl) ?_; simp only [opsZ, List.getD_cons_zero, List.getD_cons_succ]; refine ZE.field rfl rfl rfl rfl sz0 (fun W => fld75 q10 0 (by decide) W) ?_; refine ZE.load rfl rfl rfl rfl sz1 (fun W hW => ldc3 (c2.on (sb_of hW)) rfl) ?_; refine ZE.move rfl rfl rfl rfl sz0 ?_; refine ZE.nilc rfl rfl rfl rfl sz0 ?_; refine ZE.field rfl rfl rfl rfl sz0 (fun W => fld44 q 2 (by decide) W) ?_; refine ZE.load rfl rfl rfl rfl sz1 (fun W hW => ldc3 ((hb.on s2.be).on (sb_of hW)) rfl) ?_; refine ZE.callB (v := .int .i64 ((pickN g.num p) : Int)) [.int .i64 g.num, .int .i64 (p : Int)] enter8 rfl rfl rfl (fun W h => .inr h) (fun W hW => (pick_any g.num p hp0 (by omega) W).mono fun e w' h => ⟨h.1, by rw [h.2]; exact Below.refl _ _⟩) ?_; refine ZE.field rfl rfl rfl rfl sz0 (fun W => fld75 q10 0 (by decide) W) ?_; refine ZE.store (fun W => Blk W q10 [.int .i64 ((pickN g.num p) : Int), byt g.fill, .int .i64 g.cut] 55 ∧ Fx (fun k => k = q10) w2 W) rfl rfl rfl (fun _ _ => .inl rfl) (fun W hW => ?_) ?_
      · obtain ⟨w', r, b, f⟩ := st3f (j := 0) ((pickN g.num p) : Int) (c2.on hW) rfl
        exact ⟨w', r, b, (Fx.of_below hW).and f⟩
      rintro w3 ⟨c3, f3⟩
      have s3 := s2.fx26 c2 hq10 f3
      refine EW.on ?_; refine EW.seq ?_; refine EW.region ?_; refine WL.field rfl rfl rfl (fld75 q10 2 (by decide) _) ?_
      obtain ⟨w4, s4, c4, f4⟩ := st3f (j := 2) 0 c3 rfl
      refine WL.store rfl rfl rfl s4 ?_
      replace c4 : Blk w4 q10 (paC (pickN g.num p) g.fill) 55 := c4
      have s5 := s3.fx26 c3 hq10 f4
      refine WL.done ?_; refine EW.on ?_; refine EW.seq ?_; refine EW.seq ?_; refine EW.region ?_; refine WL.move rfl rfl rfl ?_; refine WL.field rfl rfl rfl (fld75 q10 0 (by decide) _) ?_; refine WL.load rfl rfl rfl (ldc3 c4 rfl) ?_; refine WL.index rfl rfl rfl rfl (idx114 qd (pickN g.num p) p hn _) ?_; refine WL.load rfl rfl rfl (ldb s5.bd (dnC_get p _ (pickN g.num p) hn)) ?_; refine WL.done ?_; refine EW.on ?_; refine EW.cond_d rfl (fun h52 => ?_) (fun h52 => ?_)
      · refine EW.exit ?_; refine px_then ?_; refine px_block ?_; refine EW.on ?_; refine EW.region ?_; refine WL.move rfl rfl rfl ?_; refine WL.bin rfl rfl rfl rfl (int_add (c := ((t + 1 : Nat) : Int)) (by rw [IntKind.wrap_i64]; omega) _ _ _) ?_; refine WL.assign rfl rfl rfl ?_; refine WL.done ?_
        have ew : wantP p (gs.take (t + 1)) = wantP p (gs.take t) := by rw [wantP_snoc p gs g t hg]; unfold wStep; rw [if_pos h52]
        refine EW.again (E := wdE q q3 qd p) (R := WdR w gs p ps (tnC vp vf cr an) q3 qd) (m := fun x => gs.length - x.1) (x := (t, vo, va, lo)) (t + 1, vo, va, lo) [0, 3, 6, 7, 8, 9] rfl ⟨by simp only; rw [ew]; exact s5, by simp only; omega, by simp only; omega, by simp only; rw [ew]; exact heq, by simp only; rw [ew]; exact hlt2⟩ (by simp only; omega)
      · refine EW.skip ?_; refine EW.on ?_; refine EW.seq ?_; refine EW.region ?_; refine WL.move rfl rfl rfl ?_; refine WL.field rfl rfl rfl (fld75 q10 0 (by decide) _) ?_; refine WL.load rfl rfl rfl (ldc3 c4 rfl) ?_; refine WL.index rfl rfl rfl rfl (idx114 qd (pickN g.num p) p hn _) ?_
        obtain ⟨w6, s6, d6, f6⟩ := stb true s5.bd (dnC_get p _ (pickN g.num p) hn)
        refine WL.store rfl rfl rfl s6 ?_
        rw [dnC_set p _ ((pickN g.num p), g.fill) hn] at d6
        have s7 := s5.fxd hqd f6 d6
        have c6 := c4.fx f6 (ne_type ⟨_, c4⟩ s5.bd (by decide))
        refine WL.done ?_; refine EW.on ?_; refine EW.seq ?_; refine EW.region ?_; refine WL.load rfl rfl rfl (ld75 c6) ?_; refine WL.call [.agg (paC (pickN g.num p) g.fill).toArray] enter46 rfl rfl rfl (bytes_ok (pickN g.num p) g.fill (by omega) w6) ?_
        rintro _ w7 ⟨u, rfl, o7, e7⟩
        refine ⟨_, rfl, ?_⟩
        have s8 := s7.on e7
        have c7 := c6.on e7
        refine WL.assign rfl rfl rfl ?_; refine WL.done ?_; refine EW.on ?_; refine EW.seq ?_; refine EW.region ?_; refine WL.move rfl rfl rfl ?_; refine WL.field rfl rfl rfl (fld75 q10 0 (by decide) _) ?_; refine WL.load rfl rfl rfl (ldc3 c7 rfl) ?_; refine WL.move rfl rfl rfl ?_; refine WL.conv (v := strV (pgB (pickN g.num p) g.fill)) rfl rfl rfl o7.has.convert ?_
        obtain ⟨a8, w8, i8, t8, o8, f8⟩ := s8.os.setAt (pickN g.num p) (by rw [aftL_len]; omega) (pgB (pickN g.num p) g.fill)
        refine WL.index rfl rfl rfl rfl (i8 _) ?_; refine WL.store rfl rfl rfl t8 ?_
        rw [← aftL_snoc ps _ (pickN g.num p, g.fill)] at o8
        have c8 := c7.fx f8 (fun e => ne_type2 (own_type s8.os.row e) ⟨_, c7⟩ (by decide) rfl)
        have u8 : Ob w8 w.heap.size u (pgB (pickN g.num p) g.fill) := (o7.fx f8 (fun k e hk => ne_type2 (own_type s8.os.row e) (own_type o7.row hk) (by decide) rfl)).mono (by have := s7.be.size; omega)
        have s9 := s8.fxa f8 o8
        refine WL.done ?_; refine EW.on ?_; refine EW.region ?_; refine WL.move rfl rfl rfl ?_; refine WL.field rfl rfl rfl (fld75 q10 0 (by decide) _) ?_; refine WL.load rfl rfl rfl (ldc3 c8 rfl) ?_; refine WL.move rfl rfl rfl ?_; refine WL.buildN [(0, .int .i64 ((pickN g.num p) : Int)), (1, u)] rfl rfl rfl (bld111 ⟨(pickN g.num p), u, pgB (pickN g.num p) g.fill⟩ (own_shape u8.row) _) ?_; refine WL.bslN [(0, .agg (pgC ⟨(pickN g.num p), u, pgB (pickN g.num p) g.fill⟩).toArray)] rfl rfl rfl (bsl72 ⟨(pickN g.num p), u, pgB (pickN g.num p) g.fill⟩ (own_shape u8.row) _) ?_
        have l9 := below_new w8 (.cells (pgC ⟨(pickN g.num p), u, pgB (pickN g.num p) g.fill⟩).toArray 98)
        have s10 := s9.on l9
        obtain ⟨vn, w10, a10, p10, f10, g10⟩ := s10.pw.push (by have := hlen; omega) ⟨(pickN g.num p), u, pgB (pickN g.num p) g.fill⟩ w8.heap.size 1 (Blk.new w8 _ 98) ⟨(u8.below l9).has, pgB_len _ _⟩ (fun y hy k hk e => by
  rcases List.mem_append.1 hy with e1 | e1
  · exact ne_type2 (own_type s10.pw.row hk) (s10.obt e1 e) (by decide) rfl
  · rw [List.mem_singleton.1 e1] at e
    exact ne_type2 (own_type s10.pw.row hk) (own_type (u8.below l9).row e) (by decide) rfl) 52
        refine WL.appR rfl rfl rfl rfl a10 ?_
        have s11 := s10.fxo (x := ⟨(pickN g.num p), u, pgB (pickN g.num p) g.fill⟩) f10 p10 (u8.below l9) g10
        refine WL.assign rfl rfl rfl ?_; refine WL.done ?_; refine pn_block ?_; refine EW.on ?_; refine EW.region ?_; refine WL.move rfl rfl rfl ?_; refine WL.bin rfl rfl rfl rfl (int_add (c := ((t + 1 : Nat) : Int)) (by rw [IntKind.wrap_i64]; omega) _ _ _) ?_; refine WL.assign rfl rfl rfl ?_; refine WL.done ?_
        have ew : wantP p (gs.take (t + 1)) = wantP p (gs.take t) ++ [(pickN g.num p, g.fill)] := by rw [wantP_snoc p gs g t hg]; unfold wStep; rw [if_neg h52]
        refine EW.again (E := wdE q q3 qd p) (R := WdR w gs p ps (tnC vp vf cr an) q3 qd) (m := fun x => gs.length - x.1) (x := (t, vo, va, lo)) (t + 1, vn, va, _) [0, 3, 6, 7, 8, 9] rfl ⟨by simp only; rw [ew]; exact s11, by simp only; omega, by simp only; omega, by simp only; rw [ew, List.map_append, List.map_append, heq]; rfl, by simp only; rw [ew]; exact fun a ha => (List.mem_append.1 ha).elim (hlt2 a) (fun e => by rw [List.mem_singleton.1 e]; exact hn)⟩ (by simp only; omega)
    · refine EW.exit ?_; refine px_then ?_; refine px_then ?_; refine px_block ?_; refine EW.on ?_; refine EW.seq ?_
      have ef : gs.take t = gs.take 20 := by
        rcases Nat.lt_or_ge t gs.length with h1 | h1
        · have e20 : t = 20 := by omega
          rw [e20]
        · rw [List.take_of_length_le h1, List.take_of_length_le (by omega)]
      rw [ef] at st heq
      refine EW.region ?_; refine WL.move rfl rfl rfl ?_; refine WL.move rfl rfl rfl ?_; refine WL.assign rfl rfl rfl ?_; refine WL.assign rfl rfl rfl ?_; refine WL.done ?_; refine EW.on ?_; refine EW.ret ?_
      exact EW.returns2 Tryz.results19 rfl rfl ⟨vo, va, lo, rfl, st.pw, heq, st.ob, st.fo, st.os, st.be⟩
  · refine EW.region ?_; refine WL.move rfl rfl rfl ?_; refine WL.field rfl rfl rfl (fldT q3 0 (by decide) _) ?_; refine WL.load rfl rfl rfl (ldG st.b3 rfl) ?_; refine WL.len rfl rfl rfl (by rw [hvp]; exact len31 _ _ _ _ _) ?_; refine WL.bin rfl rfl rfl rfl (int_lt_f (by omega) _ _ _) ?_; refine WL.move rfl rfl rfl ?_
    first | refine WL.move rfl rfl rfl ?_ | refine WL.skip _ rfl rfl rfl ?_
    refine WL.skip _ rfl rfl rfl ?_; refine WL.pick rfl rfl rfl rfl ?_; refine WL.done ?_; refine EW.on ?_; refine EW.cond_f rfl ?_; refine EW.exit ?_; refine px_then ?_; refine px_then ?_; refine px_block ?_; refine EW.on ?_; refine EW.seq ?_
    have ef : gs.take t = gs.take 20 := by
      rcases Nat.lt_or_ge t gs.length with h1 | h1
      · have e20 : t = 20 := by omega
        rw [e20]
      · rw [List.take_of_length_le h1, List.take_of_length_le (by omega)]
    rw [ef] at st heq
    refine EW.region ?_; refine WL.move rfl rfl rfl ?_; refine WL.move rfl rfl rfl ?_; refine WL.assign rfl rfl rfl ?_; refine WL.assign rfl rfl rfl ?_; refine WL.done ?_; refine EW.on ?_; refine EW.ret ?_
    exact EW.returns2 Tryz.results19 rfl rfl ⟨vo, va, lo, rfl, st.pw, heq, st.ob, st.fo, st.os, st.be⟩
end Go.Proofs.YtmbgeojjklboeaaGreatDoor
