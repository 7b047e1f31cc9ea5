import Derived.Test.YthfcabhelldokaaRf
import Derived.Test.YthfcabhelldokaaKsG
set_option linter.unusedVariables false
set_option linter.unusedSimpArgs false
namespace Go.Proofs.Ythfcabhelldokaa
open Go.RowKit

theorem los1 {w : World} {L : Rl} {D : Dv} (h : RDev w L D) (h1 : D.left = 1) : crashD (tickD D) L.ks L.torn L.off = changedD D := by
  obtain ⟨e1, e2, e3⟩ := h.los (by omega)
  unfold changedD
  rw [if_pos h1, e1, e2, e3]
  rfl
theorem sixty {w : World} {L : Rl} {D : Dv} (h : RDev w L D) : ∀ k, L.ks ≠ [] → L.vk.ownBlock = some k → L.vb.ownBlock ≠ some k := fun k _ hk => (h.kn k hk).2.1
def fuE (p t : Nat) : List (Nat × Value) := [(0, .pointer (some ⟨p, 0, none⟩)), (4, .int .i64 (t : Int))]
set_option maxRecDepth 100000 in
set_option maxHeartbeats 1000000 in
theorem rflush_no {w : World} {L : Rl} {D : Dv} (h : RDev w L D) (hd : D.down = true) : Calls Try.prog 50 #[.pointer (some ⟨L.p, 0, none⟩)] w fun e w' => e = .returned (.int .i64 80) ∧ w' = w := by
  have hc := h.r2
  rw [hd] at hc
  refine calls_of_args [.pointer (some ⟨L.p, 0, none⟩)] Try.func50 rfl 39 Try.ntmps50 (by show 1 ≤ 39; decide) ?_
  refine EW.seq ?_
  refine EW.region ?_
  first | refine WL.assign rfl rfl rfl ?_
  refine WL.done ?_
  refine EW.on ?_
  refine EW.seq ?_
  refine EW.seq ?_
  refine EW.region ?_
  first | refine WL.move rfl rfl rfl ?_
  first | refine WL.nilc rfl rfl rfl ?_
  first | refine WL.field rfl rfl rfl (fld96_2 _ _) ?_
  refine WL.load rfl rfl rfl (ld4 hc) ?_
  refine WL.done ?_
  refine EW.on ?_
  refine EW.cond_t rfl ?_
  refine EW.seq ?_
  refine EW.region ?_
  first | refine WL.assign rfl rfl rfl ?_
  refine WL.done ?_
  refine EW.on ?_
  refine EW.ret ?_
  repeat (first | refine pr_then ?_ | refine pr_block ?_)
  exact EW.returns Try.results50 rfl ⟨rfl, rfl⟩
set_option maxRecDepth 100000 in
set_option maxHeartbeats 1000000 in
theorem rflush_crash {w : World} {L : Rl} {D : Dv} (h : RDev w L D) (hd : D.down = false) (hcal : D.calls < 1000000000000) (h1 : D.left = 1) : Calls Try.prog 50 #[.pointer (some ⟨L.p, 0, none⟩)] w fun e w' => e = .returned (.int .i64 80) ∧ RT w w' L L.bare ∧ RDev w' L.bare (changedD D) := by
  have hc := h.r2
  rw [hd] at hc
  have hfi := ref_fires h hcal (by omega)
  rw [decide_eq_true h1] at hfi
  refine calls_of_args [.pointer (some ⟨L.p, 0, none⟩)] Try.func50 rfl 39 Try.ntmps50 (by show 1 ≤ 39; decide) ?_
  refine EW.seq ?_
  refine EW.region ?_
  first | refine WL.assign rfl rfl rfl ?_
  refine WL.done ?_
  refine EW.on ?_
  refine EW.seq ?_
  refine EW.seq ?_
  refine EW.region ?_
  first | refine WL.move rfl rfl rfl ?_
  first | refine WL.nilc rfl rfl rfl ?_
  first | refine WL.field rfl rfl rfl (fld96_2 _ _) ?_
  refine WL.load rfl rfl rfl (ld4 hc) ?_
  refine WL.done ?_
  refine EW.on ?_
  refine EW.cond_f rfl ?_
  refine EW.skip ?_
  refine EW.on ?_
  refine EW.seq ?_
  refine EW.region ?_
  first | refine WL.move rfl rfl rfl ?_
  refine WL.call [.pointer (some ⟨L.p, 0, none⟩)] enter64 rfl rfl rfl hfi ?_
  rintro x w1 ⟨rfl, ht1, hr1⟩
  refine ⟨_, rfl, ?_⟩
  first | refine WL.assign rfl rfl rfl ?_
  refine WL.done ?_
  have hfa := falls_ref hr1 L.vk L.ks L.torn L.off hr1.kp (sixty hr1)
  rw [los1 h h1] at hfa
  refine EW.on ?_
  refine EW.seq ?_
  refine EW.seq ?_
  refine EW.region ?_
  first | refine WL.move rfl rfl rfl ?_
  refine WL.done ?_
  refine EW.on ?_
  refine EW.cond_t rfl ?_
  refine EW.seq ?_
  refine EW.region ?_
  first | refine WL.move rfl rfl rfl ?_
  first | refine WL.move rfl rfl rfl ?_
  first | refine WL.nilc rfl rfl rfl ?_
  first | refine WL.field rfl rfl rfl (fld96_4 _ _) ?_
  refine WL.load rfl rfl rfl hr1.loss ?_
  refine WL.call [.pointer (some ⟨L.p, 0, none⟩), .agg (lossC L.vk L.torn L.off).toArray] enter65 rfl rfl rfl hfa ?_
  rintro x w2 ⟨rfl, ht2, hr2⟩
  refine ⟨_, rfl, ?_⟩
  refine WL.done ?_
  refine EW.on ?_
  refine EW.seq ?_
  refine EW.region ?_
  first | refine WL.assign rfl rfl rfl ?_
  refine WL.done ?_
  refine EW.on ?_
  refine EW.ret ?_
  repeat (first | refine pr_then ?_ | refine pr_block ?_)
  exact EW.returns Try.results50 rfl ⟨rfl, ht1.trans ht2, hr2⟩
set_option maxRecDepth 100000 in
set_option maxHeartbeats 1000000 in
theorem rflush_ok {w : World} {L : Rl} {D : Dv} (h : RDev w L D) (hd : D.down = false) (hcal : D.calls < 1000000000000) (hl : D.left < 9223372036854775808) (h1 : D.left ≠ 1) : Calls Try.prog 50 #[.pointer (some ⟨L.p, 0, none⟩)] w fun e w' => e = .returned (.int .i64 0) ∧ RT w w' L L.bare ∧ RDev w' L.bare (flushD D) := by
  have hc := h.r2
  rw [hd] at hc
  have hfi := ref_fires h hcal hl
  rw [decide_eq_false h1] at hfi
  refine calls_of_args [.pointer (some ⟨L.p, 0, none⟩)] Try.func50 rfl 39 Try.ntmps50 (by show 1 ≤ 39; decide) ?_
  refine EW.seq ?_
  refine EW.region ?_
  first | refine WL.assign rfl rfl rfl ?_
  refine WL.done ?_
  refine EW.on ?_
  refine EW.seq ?_
  refine EW.seq ?_
  refine EW.region ?_
  first | refine WL.move rfl rfl rfl ?_
  first | refine WL.nilc rfl rfl rfl ?_
  first | refine WL.field rfl rfl rfl (fld96_2 _ _) ?_
  refine WL.load rfl rfl rfl (ld4 hc) ?_
  refine WL.done ?_
  refine EW.on ?_
  refine EW.cond_f rfl ?_
  refine EW.skip ?_
  refine EW.on ?_
  refine EW.seq ?_
  refine EW.region ?_
  first | refine WL.move rfl rfl rfl ?_
  refine WL.call [.pointer (some ⟨L.p, 0, none⟩)] enter64 rfl rfl rfl hfi ?_
  rintro x w1 ⟨rfl, ht1, hr1⟩
  refine ⟨_, rfl, ?_⟩
  first | refine WL.assign rfl rfl rfl ?_
  refine WL.done ?_
  refine EW.on ?_
  refine EW.seq ?_
  refine EW.seq ?_
  refine EW.region ?_
  first | refine WL.move rfl rfl rfl ?_
  refine WL.done ?_
  refine EW.on ?_
  refine EW.cond_f rfl ?_
  refine EW.skip ?_
  refine EW.on ?_
  refine EW.seq ?_
  refine EW.seq ?_
  refine EW.region ?_
  first | refine WL.assign rfl rfl rfl ?_
  refine WL.done ?_
  refine EW.on ?_
  refine EW.block ?_
  refine EW.loop (fuE L.p) (fun t w' => t ≤ D.pen.length ∧ Fx (fun k => L.vb.ownBlock = some k) w1 w' ∧ RDev w' L { (tickD D) with img := imgT (fun _ => 512) D.pen D.img t }) (fun t => D.pen.length - t) 0 [0, 4] rfl ⟨Nat.zero_le _, Fx.refl _ _, hr1⟩ ?_
  rintro t wr ⟨htm, hfx, hr⟩
  show EW _ _ _ _ [(0, .pointer (some ⟨L.p, 0, none⟩)), (4, .int .i64 (t : Int))] _
  have hpl := hr.plen
  have hpl : ∀ W ty, (Builtin.len_ #[30] ty #[L.vl]).run Try.prog W = .ok (.int .i64 (D.pen.length : Int)) W := hpl
  by_cases hl : t < D.pen.length
  · have z1 : (t : Int) < (D.pen.length : Int) := Int.ofNat_lt.2 hl
    have tn := tnM t _ hl h.ok.few
    obtain ⟨x, hx⟩ : ∃ x, D.pen[t]? = some x := ⟨D.pen[t]'hl, List.getElem?_eq_getElem _⟩
    obtain ⟨vx, hvx⟩ : ∃ x, L.vs[t]? = some x := ⟨L.vs[t]'(by rw [h.vsl]; exact hl), List.getElem?_eq_getElem _⟩
    have hxm := h.ok.sec x (List.mem_of_getElem? hx)
    have hstep := imgT_suc (fun _ => 512) D.pen D.img t x hx
    obtain ⟨gp, hix, hat⟩ := hr.item t vx x hvx hx
    have hput := put_ref hr x.1 hxm.1 vx x.2 hxm.2 (hr.bys t vx x hvx hx) (fun k hk => (hr.vn vx (List.mem_of_getElem? hvx) k hk).2.1) 512 (Nat.le_refl _)
    rw [show ((512 : Nat) : Int) = 512 from rfl] at hput
    refine EW.seq ?_
    refine EW.seq ?_
    refine EW.region ?_
    first | refine WL.move rfl rfl rfl ?_
    first | refine WL.move rfl rfl rfl ?_
    first | refine WL.nilc rfl rfl rfl ?_
    first | refine WL.field rfl rfl rfl (fld96_1 _ _) ?_
    refine WL.load rfl rfl rfl (ld30 hr.r1) ?_
    refine WL.len rfl rfl rfl (hpl _ _) ?_
    first | refine WL.bin rfl rfl rfl rfl (int_lt_t ‹_› _ _ _) ?_ | refine WL.bin rfl rfl rfl rfl (int_lt_f ‹_› _ _ _) ?_
    refine WL.done ?_
    refine EW.on ?_
    refine EW.cond_t rfl ?_
    refine EW.skip ?_
    refine EW.on ?_
    refine EW.seq ?_
    refine EW.block ?_
    refine EW.region ?_
    first | refine WL.move rfl rfl rfl ?_
    first | refine WL.move rfl rfl rfl ?_
    first | refine WL.nilc rfl rfl rfl ?_
    first | refine WL.field rfl rfl rfl (fld96_1 _ _) ?_
    refine WL.load rfl rfl rfl (ld30 hr.r1) ?_
    first | refine WL.move rfl rfl rfl ?_
    refine WL.index rfl rfl rfl rfl (hix _) ?_
    refine WL.load rfl rfl rfl (ld78 hat) ?_
    refine WL.call [.pointer (some ⟨L.p, 0, none⟩), .agg (pwC x.1 vx).toArray, .int .i64 512] enter66 rfl rfl rfl hput ?_
    rintro x w4 ⟨rfl, hf4, hr4⟩
    refine ⟨_, rfl, ?_⟩
    refine WL.done ?_
    have hr4 : RDev w4 L { (tickD D) with img := imgT (fun _ => 512) D.pen D.img (t + 1) } := by rw [hstep]; exact hr4
    refine pn_block ?_
    refine EW.on ?_
    refine EW.region ?_
    first | refine WL.move rfl rfl rfl ?_
    first | refine WL.bin rfl rfl rfl rfl (int_add ‹_› _ _ _) ?_
    first | refine WL.assign rfl rfl rfl ?_
    refine WL.done ?_
    exact EW.again (t + 1) [0, 4] rfl ⟨hl, hfx.and hf4, hr4⟩ (by show D.pen.length - (t + 1) < D.pen.length - t; omega)
  · have z1 : ¬ (t : Int) < (D.pen.length : Int) := fun hh => hl (Int.ofNat_lt.1 hh)
    obtain rfl : t = D.pen.length := Nat.le_antisymm htm (Nat.le_of_not_lt hl)
    have k1 := hr.noList
    have s1 := st30 (ao := none) (l := 0) (c := 0) hr.r1 (hr.dev.frozen 1)
    refine EW.seq ?_
    refine EW.seq ?_
    refine EW.region ?_
    first | refine WL.move rfl rfl rfl ?_
    first | refine WL.move rfl rfl rfl ?_
    first | refine WL.nilc rfl rfl rfl ?_
    first | refine WL.field rfl rfl rfl (fld96_1 _ _) ?_
    refine WL.load rfl rfl rfl (ld30 hr.r1) ?_
    refine WL.len rfl rfl rfl (hpl _ _) ?_
    first | refine WL.bin rfl rfl rfl rfl (int_lt_t ‹_› _ _ _) ?_ | refine WL.bin rfl rfl rfl rfl (int_lt_f ‹_› _ _ _) ?_
    refine WL.done ?_
    refine EW.on ?_
    refine EW.cond_f rfl ?_
    refine EW.exit ?_
    repeat refine px_then ?_
    refine px_block ?_
    refine EW.on ?_
    refine EW.seq ?_
    refine EW.region ?_
    first | refine WL.move rfl rfl rfl ?_
    first | refine WL.nilc rfl rfl rfl ?_
    first | refine WL.field rfl rfl rfl (fld96_1 _ _) ?_
    refine WL.store rfl rfl rfl s1 ?_
    refine WL.done ?_
    refine EW.on ?_
    refine EW.seq ?_
    refine EW.region ?_
    first | refine WL.assign rfl rfl rfl ?_
    refine WL.done ?_
    refine EW.on ?_
    refine EW.ret ?_
    repeat (first | refine pr_then ?_ | refine pr_block ?_)
    exact EW.returns Try.results50 rfl ⟨rfl, ht1.trans (hfx.rt.trans k1.2), k1.1⟩
theorem bd78v (i : Nat) (ao : Option Addr) (l c : Nat) (W : World) : (Instr.build 78 #[(0, .int .i64 (i : Int)), (1, .slice ao l c)]).run Try.prog W = .ok (.agg (pwC i (.slice ao l c)).toArray) W := by kernel_rfl
theorem bs30v (i : Nat) (ao : Option Addr) (l c : Nat) (W : World) : (Instr.buildSlice 30 1 #[(0, .agg (pwC i (.slice ao l c)).toArray)]).run Try.prog W = .ok (.slice (some ⟨W.heap.size, 0, none⟩) 1 1) (W.alloc (.cells (pwC i (.slice ao l c)).toArray 78)) := by kernel_rfl
theorem run_app30v (w : World) (v : Value) (n : Nat) (xs : List Value) (hown : w.ownsRow 0 78 2 v n xs) (g s : Nat) (ao : Option Addr) (l c : Nat) (hB : Blk w g (pwC s (.slice ao l c)) 78) (hn : n ≤ 1000000) (ty : TypeId) :
    ∃ v' w', (Builtin.append_ #[30, 30] ty #[v, .slice (some ⟨g, 0, none⟩) 1 1]).run Try.prog w = .ok v' w' ∧ w'.ownsRow 0 78 2 v' (n + 1) (xs ++ pwC s (.slice ao l c)) ∧ w.grownBy w' v.ownBlock ∧ Nw w v v' := by
  obtain ⟨i0, hi, hz0, hz1, hz2⟩ := info_parts Try.info78
  exact run_appx w 30 ty 78 i0 _ 2 32 Try.underlying30 hi hz0 hz1 hz2 (by simp [Value.cells]) (by decide) v n xs hown ⟨g, 0, none⟩ 1 1 (pwC s (.slice ao l c)) rfl
    (fun j u hu => by rw [add_plain, hB.cell]; exact hu) (fun u hu => by
      simp only [pwC, List.mem_cons, List.not_mem_nil, or_false] at hu
      rcases hu with rfl | rfl <;> rfl) (by omega) (by omega)
def Rl.more (L : Rl) (vl v : Value) : Rl := ⟨L.p, L.vb, vl, L.vk, L.vs ++ [v], L.ks, L.torn, L.off⟩
/-- A pending write is noted. -/
theorem RDev.push {w : World} {L : Rl} {D : Dv} (h : RDev w L D) (hl : D.pen.length < 1000000) (i : Nat) (hi : i < D.n) (b : List UInt8) (hb : b.length = 512) (xo : Option Addr) (xl xc : Nat) (hv : Has w (.slice xo xl xc) b) (hvn : ∀ k, Value.ownBlock (.slice xo xl xc) = some k → ¬ L.F k ∧ k < w.heap.size) (ty : TypeId) :
    ∃ w1 ao ln cp w2, (Instr.buildSlice 30 1 #[(0, .agg (pwC i (.slice xo xl xc)).toArray)]).run Try.prog w = .ok (.slice (some ⟨w.heap.size, 0, none⟩) 1 1) w1 ∧ (Builtin.append_ #[30, 30] ty #[L.vl, .slice (some ⟨w.heap.size, 0, none⟩) 1 1]).run Try.prog w1 = .ok (.slice ao ln cp) w2 ∧ w1.cell? ⟨L.p, 1, none⟩ = some L.vl ∧ w2.cell? ⟨L.p, 1, none⟩ = some L.vl ∧ w2.frozen? ⟨L.p, 1, none⟩ = false ∧
      RDev (w2.setCell ⟨L.p, 1, none⟩ (.slice ao ln cp)) (L.more (.slice ao ln cp) (.slice xo xl xc)) (pushD D i b) ∧ Fx L.F w (w2.setCell ⟨L.p, 1, none⟩ (.slice ao ln cp)) ∧ (∀ k, Value.ownBlock (.slice ao ln cp) = some k → L.vl.ownBlock = some k ∨ w.heap.size ≤ k) := by
  have be1 : Below w.heap.size w (w.alloc (.cells (pwC i (.slice xo xl xc)).toArray 78)) := below_new _ _
  have h1 := h.below be1
  have hv1 := hv.below be1
  have hP : Blk (w.alloc (.cells (pwC i (.slice xo xl xc)).toArray 78)) w.heap.size (pwC i (.slice xo xl xc)) 78 := Blk.new _ _ _
  obtain ⟨v', w2, hr, ho, hg, hn⟩ := run_app30v _ L.vl _ _ h1.pen w.heap.size i xo xl xc hP (by omega) ty
  have hbs := bs30v i xo xl xc w
  have hsz : w.heap.size < (w.alloc (.cells (pwC i (.slice xo xl xc)).toArray 78)).heap.size := by simp
  obtain ⟨w1, hw1⟩ : ∃ w1, w.alloc (.cells (pwC i (.slice xo xl xc)).toArray 78) = w1 := ⟨_, rfl⟩
  rw [hw1] at be1 h1 hv1 hr hg hn hbs hsz
  clear hP hw1
  have f := grown_fx hg
  obtain ⟨ao, ln, cp, rfl⟩ := own_shape ho
  have d2 : Blk w2 L.p (rvC L D) 96 := h1.dev.fx f (fun e => h.lp e)
  have hnew : ∀ k, Value.ownBlock (.slice ao ln cp) = some k → L.vl.ownBlock = some k ∨ w.heap.size ≤ k := fun k hk => by
    rcases hn k hk with e | e
    · exact .inl e
    · exact .inr (by omega)
  have hvl : ∀ k, Value.ownBlock (.slice ao ln cp) = some k → k ≠ L.p ∧ L.vb.ownBlock ≠ some k ∧ L.vk.ownBlock ≠ some k ∧ (∀ u ∈ L.vs ++ [.slice xo xl xc], Value.ownBlock u ≠ some k) := fun k hk => by
    rcases hnew k hk with e | e
    · exact ⟨fun e2 => h.lp (by rw [← e2]; exact e), fun e2 => h.bl k e2 e, fun e2 => (h.kn k e2).2.2.1 e, fun u hu e2 => by
        rcases List.mem_append.1 hu with hu | hu
        · exact (h.vn u hu k e2).2.2.1 e
        · rw [List.mem_singleton.1 hu] at e2; exact (hvn k e2).1 (.inr (.inr (.inl e)))⟩
    · exact ⟨fun e2 => by have := h.dev.lt; omega, fun e2 => by have := ownsRow_lt h.img k e2; omega, fun e2 => by have := (h.kn k e2).2.2.2; omega, fun u hu e2 => by
        rcases List.mem_append.1 hu with hu | hu
        · have := (h.vn u hu k e2).2.2.2; omega
        · rw [List.mem_singleton.1 hu] at e2; have := (hvn k e2).2; omega⟩
  have hf : Fx (fun j => j = L.p) w2 (w2.setCell ⟨L.p, 1, none⟩ (.slice ao ln cp)) := Fx.setCell w2 L.p 1 _ rfl
  have hsz2 : w.heap.size ≤ (w2.setCell ⟨L.p, 1, none⟩ (.slice ao ln cp)).heap.size := Nat.le_trans be1.size (Nat.le_trans f.size hf.size)
  refine ⟨w1, ao, ln, cp, w2, hbs, hr, h1.r1, (d2.cell 1).trans rfl, d2.frozen 1, ?_, ((Fx.of_below be1).and (f.mono (fun k _ e => .inr (.inr (.inl e))))).and (hf.mono (fun k _ e => .inl e)), hnew⟩
  exact { dev := d2.set 1 _, img := ownsRow_fx (ownsRow_fx h1.img f (fun k hk e => h.bl k hk e)) hf (fun k hk e => h.bp (by rw [← e]; exact hk)),
          pen := by
            have := ownsRow_fx ho hf (fun k hk e => (hvl k hk).1 e)
            show World.ownsRow _ _ _ _ _ (D.pen ++ [(i, b)]).length (pvC (L.vs ++ [.slice xo xl xc]) (D.pen ++ [(i, b)]))
            rw [pvC_snoc _ _ _ _ h.vsl, List.length_append]
            exact this
          bys := fun k u x e1 e2 => by
            have e1 : (L.vs ++ [.slice xo xl xc])[k]? = some u := e1
            have e2 : (D.pen ++ [(i, b)])[k]? = some x := e2
            have hm := List.mem_of_getElem? e1
            rcases Nat.lt_or_ge k L.vs.length with hk | hk
            · rw [List.getElem?_append_left hk] at e1
              rw [List.getElem?_append_left (by rw [← h.vsl]; exact hk)] at e2
              have hu := h.vn u (List.mem_of_getElem? e1)
              exact ((h1.bys k u x e1 e2).fx f (fun j hj e => (hu j hj).2.2.1 e)).fx hf (fun j hj e => (hu j hj).1 e)
            · rw [List.getElem?_append_right hk] at e1
              rw [List.getElem?_append_right (by rw [← h.vsl]; exact hk)] at e2
              obtain ⟨hz, _⟩ := List.getElem?_eq_some_iff.1 e1
              have hz0 : k - L.vs.length = 0 := by simpa using hz
              have hz1 : k - D.pen.length = 0 := by rw [← h.vsl]; exact hz0
              rw [hz0] at e1
              rw [hz1] at e2
              simp at e1 e2
              subst e1 e2
              exact (hv1.fx f (fun j hj e => (hvn j hj).1 (.inr (.inr (.inl e))))).fx hf (fun j hj e => (hvn j hj).1 (.inl e))
          vsl := by show (L.vs ++ [_]).length = (D.pen ++ [_]).length; simp [h.vsl]
          kp := (h1.kp.fx f (fun k hk e => (h.kn k hk).2.2.1 e)).fx hf (fun k hk e => (h.kn k hk).1 e)
          los := h.los
          ok := ⟨h.ok.n1, h.ok.n2, h.ok.len, fun x hx => by
            rcases List.mem_append.1 hx with hx | hx
            · exact h.ok.sec x hx
            · rw [List.mem_singleton.1 hx]; exact ⟨hi, hb⟩, by show (D.pen ++ [(i, b)]).length ≤ 1000000; simp; omega, h.ok.cal⟩
          bp := h.bp
          lp := fun e => (hvl L.p e).1 rfl
          bl := fun k h3 h4 => (hvl k h4).2.1 h3
          kn := fun k hk => ⟨(h.kn k hk).1, (h.kn k hk).2.1, fun e => (hvl k e).2.2.1 hk, Nat.lt_of_lt_of_le (h.kn k hk).2.2.2 hsz2⟩
          vn := fun u hu k hk => by
            have hu : u ∈ L.vs ++ [.slice xo xl xc] := hu
            refine ⟨?_, ?_, fun e => (hvl k e).2.2.2 u hu hk, ?_⟩
            · rcases List.mem_append.1 hu with hu | hu
              · exact (h.vn u hu k hk).1
              · rw [List.mem_singleton.1 hu] at hk; exact fun e => (hvn k hk).1 (.inl e)
            · rcases List.mem_append.1 hu with hu | hu
              · exact (h.vn u hu k hk).2.1
              · rw [List.mem_singleton.1 hu] at hk; exact fun e => (hvn k hk).1 (.inr (.inl e))
            · rcases List.mem_append.1 hu with hu | hu
              · exact Nat.lt_of_lt_of_le (h.vn u hu k hk).2.2.2 hsz2
              · rw [List.mem_singleton.1 hu] at hk; exact Nat.lt_of_lt_of_le (hvn k hk).2 hsz2 }
end Go.Proofs.Ythfcabhelldokaa
