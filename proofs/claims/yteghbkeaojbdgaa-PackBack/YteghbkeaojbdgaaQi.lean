import Derived.Test.YteghbkeaojbdgaaQh
set_option linter.unusedVariables false
set_option linter.unusedSimpArgs false
namespace Go.Proofs.Yteghbkeaojbdgaa
open Go.RowKit

theorem Has.offN {w : World} {v : Value} {bs : List UInt8} (h : Has w v bs) {k : Nat} (hk : w.heap.size ≤ k) : Off v bs k := (RV.ok.off (r := ⟨0, v, v, bs, bs⟩) (w := w) ⟨h, h⟩ hk).1
theorem Rd.fxo {S : Nat → Prop} {w w' : World} {q : Nat} {v : Value} {c : List UInt8} {at_ : Nat} {f : Int} (h : Rd w q v c at_ f) (hf : Fx S w w') (hq : ¬ S q) (ho : ∀ k, S k → Off v c k) : Rd w' q v c at_ f := ⟨h.bl.fx hf hq, h.hs.fxo hf ho, h.le⟩
theorem Ol.fxo {S : Nat → Prop} {w w' : World} {b : Nat} {v : Value} {rs : List RV} (h : Ol w b v rs) (hf : Fx S w w') (ho : ∀ k, v.ownBlock = some k → ¬ S k) (hr : ∀ r ∈ rs, ∀ k, S k → r.off k) : Ol w' b v rs := by
  refine ⟨?_, h.base, fun r hm => (h.ok r hm).fx hf (hr r hm), h.off⟩
  obtain ⟨hx, h1 | ⟨g, cp, cur, rfl, hg, hh2, hr⟩⟩ := h.row
  · exact ⟨hx, .inl h1⟩
  · refine ⟨hx, .inr ⟨g, cp, cur, rfl, hg, ?_, hr⟩⟩
    rw [hf.block g (by
      rcases Nat.lt_or_ge g w.heap.size with hl | hl
      · exact hl
      · rw [Array.getElem?_eq_none hl] at hh2; cases hh2) (ho g rfl)]
    exact hh2
structure RaX where
  t : Nat
  vl : Value
  rs : List RV
  p : Nat
def raE (q n : Nat) (x : RaX) : List (Nat × Value) := [(0, .pointer (some ⟨q, 0, none⟩)), (6, x.vl), (10, .int .i64 (n : Int)), (11, .int .i64 (x.t : Int))]
structure RaR (w : World) (q : Nat) (v : Value) (c : List UInt8) (n : Nat) (x : RaX) (W : World) : Prop where
  rd : Rd W q v c x.p 0
  ol : Ol W w.heap.size x.vl x.rs
  ln : x.rs.length = x.t
  le : x.t ≤ n
  pz : Pz c (x.rs.map RV.d) x.p
  fx : Fx (fun k => k = q) w W
set_option maxRecDepth 100000 in
set_option maxHeartbeats 1000000 in
theorem readAll_any (q n : Nat) (v : Value) (c : List UInt8) (w : World) (hr : Rd w q v c 0 0) (hl : c.length ≤ 100000) (hn : n < 9223372036854775808) : Calls Try.prog 29 #[.pointer (some ⟨q, 0, none⟩), .int .i64 (n : Int)] w fun e w' => ∃ (vl : Value) (code : Int), e = .returned (.tuple #[vl, .int .i64 code]) ∧ Fx (fun k => k = q) w w' ∧ ((code = 0 ∧ ∃ rs p, Ol w' w.heap.size vl rs ∧ rs.length = n ∧ Pz c (rs.map RV.d) p ∧ Rd w' q v c p 0) ∨ (vl = .slice none 0 0 ∧ ¬ code = 0 ∧ ∀ ds p, Pz c ds p → ds.length ≠ n)) := by
  refine calls_of_args [.pointer (some ⟨q, 0, none⟩), .int .i64 (n : Int)] Try.func29 rfl 40 Try.ntmps29 (by show 2 ≤ 40; decide) ?_
  refine EW.seq ?_
  refine EW.region ?_
  first | refine WL.assign rfl rfl rfl ?_
  first | refine WL.assign rfl rfl rfl ?_
  refine WL.done ?_
  refine EW.on ?_
  refine EW.seq ?_
  refine EW.region ?_
  first | refine WL.assign rfl rfl rfl ?_
  refine WL.done ?_
  refine EW.on ?_
  refine EW.seq ?_
  refine EW.seq ?_
  refine EW.region ?_
  first | refine WL.move rfl rfl rfl ?_
  first | refine WL.move rfl rfl rfl ?_
  refine WL.done ?_
  refine EW.on ?_
  refine EW.block ?_
  refine EW.loop (raE q n) (RaR w q v c n) (fun x => n - x.t) ⟨0, .slice none 0 0, [], 0⟩ [0, 6, 10, 11] rfl ⟨hr, Ol.nil _ _, rfl, Nat.zero_le _, Pz.nil, Fx.of_below (Below.refl _ _)⟩ ?_
  rintro ⟨t, vl, rs, p⟩ wi hR
  have htl : t ≤ n := hR.le
  have hRln : rs.length = t := hR.ln
  have hps := pz_size hR.pz
  have hple := hR.rd.le
  rw [List.length_map, hRln] at hps
  dsimp only at hps hple
  show EW _ _ _ _ [(0, .pointer (some ⟨q, 0, none⟩)), (6, vl), (10, .int .i64 (n : Int)), (11, .int .i64 (t : Int))] _
  refine EW.seq ?_
  refine EW.region ?_
  first | refine WL.bin rfl rfl rfl rfl (int_lt_t ‹_› _ _ _) ?_ | refine WL.bin rfl rfl rfl rfl (int_lt_f ‹_› _ _ _) ?_ | refine WL.bin rfl rfl rfl rfl (int_lt_d _ _ _ _ _) ?_
  refine WL.done ?_
  refine EW.on ?_
  refine EW.seq ?_
  refine EW.cond_d rfl (fun h12 => ?_) (fun h12 => ?_)
  · refine EW.skip ?_
    refine EW.on ?_
    refine EW.seq ?_
    refine EW.block ?_
    refine EW.seq ?_
    refine EW.region ?_
    first | refine WL.move rfl rfl rfl ?_
    first | refine WL.assign rfl rfl rfl ?_
    refine WL.done ?_
    refine EW.on ?_
    refine EW.seq ?_
    refine EW.region ?_
    first | refine WL.move rfl rfl rfl ?_
    refine WL.call [.pointer (some ⟨q, 0, none⟩)] enter44 rfl rfl rfl (read_any q v c p _ hR.rd (by omega)) ?_
    rintro _ w2 ⟨x, er, rfl, ok2, x2, hcs⟩
    refine ⟨_, rfl, ?_⟩
    first | refine WL.move rfl rfl rfl ?_
    first | refine WL.extract rfl rfl rfl (ext_2 _ _ _).1 ?_
    first | refine WL.extract rfl rfl rfl (ext_2 _ _ _).2 ?_
    obtain ⟨w3, q8, r3, b3, be3, hq3⟩ := new32 w2
    refine WL.new rfl rfl r3 ?_
    obtain ⟨w4, s4, b8, y4⟩ := st32 b3 rfl ok2.one
    refine WL.store rfl rfl rfl s4 ?_
    have be4 : Below w2.heap.size w2 w4 := be3.trans (y4.below (fun k hk e => by omega) be3.size)
    first | refine WL.assign rfl rfl rfl ?_
    refine WL.done ?_
    refine EW.on ?_
    refine EW.seq ?_
    refine EW.seq ?_
    rcases hcs with ⟨rfl, hrk, hxd, f1, f2, rd2⟩ | ⟨rfl, hbad⟩
    · refine EW.region ?_
      first | refine WL.move rfl rfl rfl ?_
      first | refine WL.bin rfl rfl rfl rfl (int_ne_f rfl _ _ _) ?_ | refine WL.bin rfl rfl rfl rfl (int_ne_t ‹_› _ _ _) ?_ | refine WL.bin rfl rfl rfl rfl (int_ne_f ‹_› _ _ _) ?_ | refine WL.bin rfl rfl rfl rfl (int_ne_t (by decide) _ _ _) ?_ | refine WL.bin rfl rfl rfl rfl (int_ne_d _ _ _ _ _) ?_
      refine WL.done ?_
      refine EW.on ?_
      refine EW.cond_f rfl ?_
      refine EW.skip ?_
      refine EW.on ?_
      refine EW.seq ?_
      refine EW.seq ?_
      have ht : t < n := by omega
      have tn : IntKind.i64.wrap ((t : Int) + 1) = ((t + 1 : Nat) : Int) := by rw [IntKind.wrap_i64]; omega
      have ol2 : Ol w2 w.heap.size vl rs := hR.ol.fxo x2 (fun k hk e => by have := hR.ol.base k hk; have := hr.bl.lt; have e' : k = q := e; omega) (fun r hm k hk => by have e' : k = q := hk; rw [e']; exact ⟨(hR.ol.ok r hm).hk.offB hR.rd.bl (nob78 _ _ _ hR.rd.hs.sl), (hR.ol.ok r hm).hv.offB hR.rd.bl (nob78 _ _ _ hR.rd.hs.sl)⟩)
      have ok4 := ok2.below be4
      have hord : (t = 0) ∨ (0 < t ∧ ∃ y, rs[t - 1]? = some y ∧ cmpR y x < 0) ∨ (0 < t ∧ ∃ y, rs[t - 1]? = some y ∧ 0 ≤ cmpR y x) := by
        rcases Nat.eq_zero_or_pos t with h0 | h0
        · exact .inl h0
        · obtain ⟨y, hy⟩ : ∃ y, rs[t - 1]? = some y := ⟨_, List.getElem?_eq_getElem (by omega)⟩
          rcases Int.lt_or_le (cmpR y x) 0 with h1 | h1
          · exact .inr (.inl ⟨h0, y, hy, h1⟩)
          · exact .inr (.inr ⟨h0, y, hy, h1⟩)
      rcases hord with ht0 | ⟨ht0, y, hy, hc⟩ | ⟨ht0, y, hy, hc⟩
      · have zg : ¬ (0 : Int) < (t : Int) := by omega
        have hog : Og (rs.map RV.d) (recD c p).1 := fun a ha => by rw [List.length_eq_zero_iff.1 (by omega : rs.length = 0)] at ha; cases ha
        refine EW.ordB [(0, 0, 0), (1, 0, 0), (2, 0, 0), (3, 0, 0), (4, 0, 0), (5, 0, 0), (6, 0, 0), (7, 0, 0), (8, 0, 0), (9, 0, 0), (10, 0, 0), (11, 0, 0)] (by kernel_rfl) rfl (by kernel_rfl) ?_
        simp only [opsZ, List.getD_cons_zero, List.getD_cons_succ]
        first | refine ZE.move rfl rfl rfl rfl sz0 ?_
        refine ZE.bin rfl rfl rfl rfl rfl sz0 (fun W => int_gt_f zg W _ _) ?_
        first | refine ZE.move rfl rfl rfl rfl sz0 ?_
        refine ZE.skip rfl rfl rfl sz0 ?_
        refine ZE.skip rfl rfl rfl sz0 ?_
        refine ZE.skip rfl rfl rfl sz0 ?_
        refine ZE.skip rfl rfl rfl sz0 ?_
        refine ZE.skip rfl rfl rfl sz0 ?_
        refine ZE.skip rfl rfl rfl sz0 ?_
        refine ZE.skip rfl rfl rfl sz0 ?_
        refine ZE.skip rfl rfl rfl sz0 ?_
        first | refine ZE.pick rfl rfl rfl rfl rfl sz0 ?_
        intro w5 be5
        refine EW.on ?_
        refine EW.cond_f rfl ?_
        refine EW.skip ?_
        refine EW.on ?_
        refine EW.region ?_
        first | refine WL.move rfl rfl rfl ?_
        refine WL.load rfl rfl rfl (ld32 (b8.on be5)) ?_
        refine WL.bslN [(0, x.val)] rfl rfl rfl (bsl23 x _) ?_
        have be6 := below_new w5 (.cells x.cs.toArray 32)
        have b26 : Below w2.heap.size w2 (w5.alloc (.cells x.cs.toArray 32)) := (be4.trans (be5.mono be4.size)).trans (be6.mono (Nat.le_trans be4.size be5.size))
        obtain ⟨v', w7, a1, a2, a3⟩ := (ol2.below b26).push (by have := hR.fx.size; have := x2.size; have := b26.size; omega) (by omega) x w5.heap.size 1 (Blk.new _ _ _) (ok2.below b26) (fun k hk => by have := own_lt hR.ol.row hk; exact ⟨f1.off (by omega), f2.off (by omega)⟩) 23
        refine WL.app rfl rfl rfl rfl a1 ?_
        first | refine WL.assign rfl rfl rfl ?_
        refine WL.done ?_
        refine pn_block ?_
        refine EW.on ?_
        refine EW.region ?_
        first | refine WL.bin rfl rfl rfl rfl (int_add ‹_› _ _ _) ?_
        first | refine WL.move rfl rfl rfl ?_
        refine WL.done ?_
        refine EW.again (E := raE q n) (R := RaR w q v c n) (m := fun x => n - x.t) (x := ⟨t, vl, rs, p⟩) ⟨t + 1, v', rs ++ [x], (recD c p).2.1⟩ [0, 6, 10, 11] rfl ⟨?_, a2, by rw [List.length_append, hRln]; rfl, by show t + 1 ≤ n; omega, ?_, ?_⟩ (by show n - (t + 1) < n - t; omega)
        · exact (rd2.below b26).fxo a3 (fun e => by have := hR.ol.base q e; have := hr.bl.lt; omega) (fun k e => hr.hs.offN (hR.ol.base k e))
        · rw [List.map_append, show [x].map RV.d = [(recD c p).1] by rw [← hxd]; rfl]
          exact Pz.snoc _ _ hR.pz hrk hog
        · exact (hR.fx.trans (x2.then_below b26) (fun k _ e => e)).trans a3 (fun k hk e => by have := hR.ol.base k e; omega)
      · have zg : (0 : Int) < (t : Int) := by omega
        have ts : IntKind.i64.wrap ((t : Int) - 1) = ((t - 1 : Nat) : Int) := by rw [IntKind.wrap_i64]; omega
        obtain ⟨ady, iy, ay⟩ := (ol2.ls.below be4).item hy
        have oky := (ol2.ls.below be4).ok y (List.mem_of_getElem? hy)
        have hla : (rs.map RV.d).getLast? = some y.d := by rw [List.getLast?_eq_getElem?, List.length_map, hRln]; exact d_at hy
        have zc : ¬ (0 : Int) ≤ cmpR y x := by omega
        have hog : Og (rs.map RV.d) (recD c p).1 := fun a ha => by rw [hla] at ha; cases ha; rw [← hxd]; exact hc
        refine EW.ordB [(0, 0, 0), (1, 0, 0), (2, 0, 0), (3, 0, 0), (4, 0, 0), (5, 0, 0), (6, 0, 0), (7, 0, 1), (8, 0, 1), (9, 1, 1), (10, 0, 0), (11, 0, 0)] (by kernel_rfl) rfl (by kernel_rfl) ?_
        simp only [opsZ, List.getD_cons_zero, List.getD_cons_succ]
        first | refine ZE.move rfl rfl rfl rfl sz0 ?_
        refine ZE.bin rfl rfl rfl rfl rfl sz0 (fun W => int_gt_t zg W _ _) ?_
        first | refine ZE.move rfl rfl rfl rfl sz0 ?_
        first | refine ZE.move rfl rfl rfl rfl sz0 ?_ | refine ZE.skip rfl rfl rfl sz0 ?_
        first | refine ZE.move rfl rfl rfl rfl sz0 ?_ | refine ZE.skip rfl rfl rfl sz0 ?_
        refine ZE.bin rfl rfl rfl rfl rfl sz0 (fun W => int_sub ts W _ _) ?_
        refine ZE.index rfl rfl rfl rfl rfl sz0 (fun W => iy W) ?_
        refine ZE.load rfl rfl rfl rfl sz1 (fun W hW => ldA (ay.below (sb_of hW))) ?_
        refine ZE.load rfl rfl rfl rfl sz1 (fun W hW => ld32 (b8.on (sb_of hW))) ?_
        refine ZE.callB [y.val, x.val] enter13 rfl rfl rfl (fun W h => .inr h) (fun W hW => cmpr_any y x W (oky.below hW) (ok4.below hW)) ?_
        refine ZE.bin rfl rfl rfl rfl rfl sz0 (fun W => int_ge_f zc W _ _) ?_
        first | refine ZE.pick rfl rfl rfl rfl rfl sz0 ?_
        intro w5 be5
        refine EW.on ?_
        refine EW.cond_f rfl ?_
        refine EW.skip ?_
        refine EW.on ?_
        refine EW.region ?_
        first | refine WL.move rfl rfl rfl ?_
        refine WL.load rfl rfl rfl (ld32 (b8.on be5)) ?_
        refine WL.bslN [(0, x.val)] rfl rfl rfl (bsl23 x _) ?_
        have be6 := below_new w5 (.cells x.cs.toArray 32)
        have b26 : Below w2.heap.size w2 (w5.alloc (.cells x.cs.toArray 32)) := (be4.trans (be5.mono be4.size)).trans (be6.mono (Nat.le_trans be4.size be5.size))
        obtain ⟨v', w7, a1, a2, a3⟩ := (ol2.below b26).push (by have := hR.fx.size; have := x2.size; have := b26.size; omega) (by omega) x w5.heap.size 1 (Blk.new _ _ _) (ok2.below b26) (fun k hk => by have := own_lt hR.ol.row hk; exact ⟨f1.off (by omega), f2.off (by omega)⟩) 23
        refine WL.app rfl rfl rfl rfl a1 ?_
        first | refine WL.assign rfl rfl rfl ?_
        refine WL.done ?_
        refine pn_block ?_
        refine EW.on ?_
        refine EW.region ?_
        first | refine WL.bin rfl rfl rfl rfl (int_add ‹_› _ _ _) ?_
        first | refine WL.move rfl rfl rfl ?_
        refine WL.done ?_
        refine EW.again (E := raE q n) (R := RaR w q v c n) (m := fun x => n - x.t) (x := ⟨t, vl, rs, p⟩) ⟨t + 1, v', rs ++ [x], (recD c p).2.1⟩ [0, 6, 10, 11] rfl ⟨?_, a2, by rw [List.length_append, hRln]; rfl, by show t + 1 ≤ n; omega, ?_, ?_⟩ (by show n - (t + 1) < n - t; omega)
        · exact (rd2.below b26).fxo a3 (fun e => by have := hR.ol.base q e; have := hr.bl.lt; omega) (fun k e => hr.hs.offN (hR.ol.base k e))
        · rw [List.map_append, show [x].map RV.d = [(recD c p).1] by rw [← hxd]; rfl]
          exact Pz.snoc _ _ hR.pz hrk hog
        · exact (hR.fx.trans (x2.then_below b26) (fun k _ e => e)).trans a3 (fun k hk e => by have := hR.ol.base k e; omega)
      · have zg : (0 : Int) < (t : Int) := by omega
        have ts : IntKind.i64.wrap ((t : Int) - 1) = ((t - 1 : Nat) : Int) := by rw [IntKind.wrap_i64]; omega
        obtain ⟨ady, iy, ay⟩ := (ol2.ls.below be4).item hy
        have oky := (ol2.ls.below be4).ok y (List.mem_of_getElem? hy)
        have hla : (rs.map RV.d).getLast? = some y.d := by rw [List.getLast?_eq_getElem?, List.length_map, hRln]; exact d_at hy
        have zc : (0 : Int) ≤ cmpR y x := hc
        refine EW.ordB [(0, 0, 0), (1, 0, 0), (2, 0, 0), (3, 0, 0), (4, 0, 0), (5, 0, 0), (6, 0, 0), (7, 0, 1), (8, 0, 1), (9, 1, 1), (10, 0, 0), (11, 0, 0)] (by kernel_rfl) rfl (by kernel_rfl) ?_
        simp only [opsZ, List.getD_cons_zero, List.getD_cons_succ]
        first | refine ZE.move rfl rfl rfl rfl sz0 ?_
        refine ZE.bin rfl rfl rfl rfl rfl sz0 (fun W => int_gt_t zg W _ _) ?_
        first | refine ZE.move rfl rfl rfl rfl sz0 ?_
        first | refine ZE.move rfl rfl rfl rfl sz0 ?_ | refine ZE.skip rfl rfl rfl sz0 ?_
        first | refine ZE.move rfl rfl rfl rfl sz0 ?_ | refine ZE.skip rfl rfl rfl sz0 ?_
        refine ZE.bin rfl rfl rfl rfl rfl sz0 (fun W => int_sub ts W _ _) ?_
        refine ZE.index rfl rfl rfl rfl rfl sz0 (fun W => iy W) ?_
        refine ZE.load rfl rfl rfl rfl sz1 (fun W hW => ldA (ay.below (sb_of hW))) ?_
        refine ZE.load rfl rfl rfl rfl sz1 (fun W hW => ld32 (b8.on (sb_of hW))) ?_
        refine ZE.callB [y.val, x.val] enter13 rfl rfl rfl (fun W h => .inr h) (fun W hW => cmpr_any y x W (oky.below hW) (ok4.below hW)) ?_
        refine ZE.bin rfl rfl rfl rfl rfl sz0 (fun W => int_ge_t zc W _ _) ?_
        first | refine ZE.pick rfl rfl rfl rfl rfl sz0 ?_
        intro w5 be5
        refine EW.on ?_
        refine EW.cond_t rfl ?_
        refine EW.seq ?_
        refine EW.region ?_
        first | refine WL.assign rfl rfl rfl ?_
        first | refine WL.assign rfl rfl rfl ?_
        refine WL.done ?_
        refine EW.on ?_
        refine EW.ret ?_
        refine pr_then ?_
        refine pr_block ?_
        refine pr_then ?_
        refine pr_then ?_
        refine pr_block ?_
        refine pr_then ?_
        exact EW.returns2 Try.results29 rfl rfl ⟨_, _, rfl, (hR.fx.trans (x2.then_below be4) (fun k _ e => e)).then_below be5, .inr ⟨rfl, by decide, fun ds p' hp' hl' => by have := (pz_next hR.pz hp' (by rw [List.length_map, hR.ln]; show t < ds.length; omega)).2 _ hla; rw [← hxd, ← cmpR_d] at this; omega⟩⟩
    · refine EW.region ?_
      first | refine WL.move rfl rfl rfl ?_
      first | refine WL.bin rfl rfl rfl rfl (int_ne_f rfl _ _ _) ?_ | refine WL.bin rfl rfl rfl rfl (int_ne_t ‹_› _ _ _) ?_ | refine WL.bin rfl rfl rfl rfl (int_ne_f ‹_› _ _ _) ?_ | refine WL.bin rfl rfl rfl rfl (int_ne_t (by decide) _ _ _) ?_ | refine WL.bin rfl rfl rfl rfl (int_ne_d _ _ _ _ _) ?_
      refine WL.done ?_
      refine EW.on ?_
      refine EW.cond_t rfl ?_
      refine EW.seq ?_
      refine EW.region ?_
      first | refine WL.move rfl rfl rfl ?_
      first | refine WL.assign rfl rfl rfl ?_
      first | refine WL.assign rfl rfl rfl ?_
      refine WL.done ?_
      refine EW.on ?_
      refine EW.ret ?_
      refine pr_then ?_
      refine pr_block ?_
      refine pr_then ?_
      refine pr_then ?_
      refine pr_block ?_
      refine pr_then ?_
      exact EW.returns2 Try.results29 rfl rfl ⟨_, _, rfl, hR.fx.trans (x2.then_below be4) (fun k _ e => e), .inr ⟨rfl, by decide, fun ds p' hp' hl' => hbad (pz_next hR.pz hp' (by rw [List.length_map, hR.ln]; show t < ds.length; omega)).1⟩⟩
  · refine EW.exit ?_
    refine px_then ?_
    refine px_then ?_
    refine px_block ?_
    refine EW.on ?_
    refine EW.seq ?_
    refine EW.region ?_
    first | refine WL.move rfl rfl rfl ?_
    first | refine WL.assign rfl rfl rfl ?_
    first | refine WL.assign rfl rfl rfl ?_
    refine WL.done ?_
    refine EW.on ?_
    refine EW.ret ?_
    exact EW.returns2 Try.results29 rfl rfl ⟨_, _, rfl, hR.fx, .inl ⟨rfl, rs, p, hR.ol, by omega, hR.pz, hR.rd⟩⟩
end Go.Proofs.Yteghbkeaojbdgaa
