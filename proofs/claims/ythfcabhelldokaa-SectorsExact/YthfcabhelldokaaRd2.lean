import Derived.Test.YthfcabhelldokaaRc
import Derived.Test.YthfcabhelldokaaScG
set_option linter.unusedVariables false
set_option linter.unusedSimpArgs false
namespace Go.Proofs.Ythfcabhelldokaa
open Go.RowKit

theorem settle_set (img : List UInt8) (s t : Nat) (b : List UInt8) (u : UInt8) (hl : s * 512 + 512 ≤ img.length) (hb : b.length = 512) (ht : t < 512) (hu : b[t]? = some u) : (settleL img s t b).set (s * 512 + t) u = settleL img s (t + 1) b := by
  unfold settleL
  have h1 : (img.take (s * 512)).length = s * 512 := by rw [List.length_take]; omega
  have h2 : (b.take t).length = t := by rw [List.length_take]; omega
  have h3 : (img.take (s * 512) ++ b.take t).length = s * 512 + t := by rw [List.length_append, h1, h2]
  rw [List.set_append_right _ _ (by omega), h3, Nat.sub_self, List.drop_eq_getElem_cons (by omega), List.set_cons_zero]
  have h4 : b.take (t + 1) = b.take t ++ [u] := by rw [List.take_add_one, hu]; rfl
  rw [h4]
  simp [Nat.add_assoc]
theorem settle_zero (img : List UInt8) (s : Nat) (b : List UInt8) : settleL img s 0 b = img := by simp [settleL]
theorem fld78_0' (g : Nat) (W : World) : (Instr.fieldAt 78 (.pointer (some ⟨g, 0, none⟩)) 0).run Try.prog W = .ok (.pointer (some ⟨g, 0, none⟩)) W := fld78_0 g 0 W
theorem fld78_1' (g : Nat) (W : World) : (Instr.fieldAt 78 (.pointer (some ⟨g, 0, none⟩)) 1).run Try.prog W = .ok (.pointer (some ⟨g, 1, none⟩)) W := fld78_1 g 0 W
theorem idx34c (g n cap m : Nat) (h : m < n) (W : World) : (Instr.indexAt 34 (.slice (some ⟨g, 0, none⟩) n cap) (.int .i64 (m : Int))).run Try.prog W = .ok (.pointer (some ⟨g, m, none⟩)) W := idx34b g n cap m h W
def ptE (p g m t : Nat) : List (Nat × Value) := [(0, .pointer (some ⟨p, 0, none⟩)), (2, .int .i64 (m : Int)), (4, .pointer (some ⟨g, 0, none⟩)), (6, .int .i64 (t : Int))]
theorem tnm (t m : Nat) (h : t < m) (hm : m ≤ 512) : IntKind.i64.wrap ((t : Int) + 1) = ((t + 1 : Nat) : Int) := by rw [IntKind.wrap_i64]; omega
theorem s512 (s : Nat) (h : s < 4096) : IntKind.i64.wrap ((s : Int) * 512) = ((s * 512 : Nat) : Int) := by rw [IntKind.wrap_i64]; omega
theorem st512 (s t : Nat) (h : s < 4096) (ht : t < 512) : IntKind.i64.wrap (((s * 512 : Nat) : Int) + (t : Int)) = ((s * 512 + t : Nat) : Int) := by rw [IntKind.wrap_i64]; omega
set_option maxRecDepth 100000 in
set_option maxHeartbeats 1000000 in
theorem put_ref {w : World} {L : Rl} {D : Dv} (h : RDev w L D) (s : Nat) (hs : s < D.n) (v : Value) (b : List UInt8) (hb : b.length = 512) (hv : Has w v b) (hvn : ∀ k, v.ownBlock = some k → L.vb.ownBlock ≠ some k) (m : Nat) (hm : m ≤ 512) :
    Calls Try.prog 66 #[.pointer (some ⟨L.p, 0, none⟩), .agg (pwC s v).toArray, .int .i64 (m : Int)] w fun e w' => e = .returned (.tuple #[]) ∧ Fx (fun k => L.vb.ownBlock = some k) w w' ∧ RDev w' L { D with img := settleL D.img s m b } := by
  obtain ⟨ad, cap, hve, hvc⟩ : ∃ ad cap, v = .slice (some ad) 512 cap ∧ ∀ i u, b[i]? = some u → w.cell? (ad.add i) = some (byt u) := by
    rcases hv with ⟨_, e⟩ | ⟨ad, cap, e, _, h3⟩
    · rw [e] at hb; simp at hb
    · exact ⟨ad, cap, by rw [e, hb], h3⟩
  have hadn : L.vb.ownBlock ≠ some ad.block := hvn _ (by rw [hve]; rfl)
  obtain ⟨g0, hg0⟩ : ∃ g, w.heap.size = g := ⟨_, rfl⟩
  have hbox := run_boxR (P := Try.prog) 78 (pwC s v) w g0 hg0
  have b0 : Blk (w.alloc (.cells (pwC s v).toArray 78)) g0 (pwC s v) 78 := Blk.newAt hg0
  have be0 : Below w.heap.size w (w.alloc (.cells (pwC s v).toArray 78)) := below_new w _
  have h0 := h.below be0
  have hgn : L.vb.ownBlock ≠ some g0 := fun e => by have := ownsRow_lt h.img g0 e; omega
  have hvc0 : ∀ i u, b[i]? = some u → (w.alloc (.cells (pwC s v).toArray 78)).cell? (ad.add i) = some (byt u) := fun i u hu => (be0.cell (cell_lt (hvc i u hu))).trans (hvc i u hu)
  obtain ⟨w0, hw0⟩ : ∃ w0, w.alloc (.cells (pwC s v).toArray 78) = w0 := ⟨_, rfl⟩
  rw [hw0] at hbox b0 be0 h0 hvc0
  clear hvc hv
  have hs4 : s < 4096 := Nat.lt_of_lt_of_le hs h.ok.n2
  have hil : s * 512 + 512 ≤ D.img.length := by rw [h.ok.len]; omega
  refine calls_of_args [.pointer (some ⟨L.p, 0, none⟩), .agg (pwC s v).toArray, .int .i64 (m : Int)] Try.func66 rfl 27 Try.ntmps66 (by show 3 ≤ 27; decide) ?_
  refine EW.seq ?_
  refine EW.region ?_
  refine WL.box rfl rfl rfl hbox ?_
  refine WL.done ?_
  refine EW.on ?_
  refine EW.seq ?_
  refine EW.region ?_
  first | refine WL.assign rfl rfl rfl ?_
  refine WL.done ?_
  refine EW.on ?_
  refine EW.block ?_
  refine EW.loop (ptE L.p g0 m) (fun t w' => t ≤ m ∧ Fx (fun k => L.vb.ownBlock = some k) w0 w' ∧ RDev w' L { D with img := settleL D.img s t b }) (fun t => m - t) 0 [0, 2, 4, 6] rfl ⟨Nat.zero_le _, Fx.refl _ _, by rw [settle_zero]; exact h0⟩ ?_
  rintro t wr ⟨htm, hfx, hr⟩
  show EW _ _ _ _ [(0, .pointer (some ⟨L.p, 0, none⟩)), (2, .int .i64 (m : Int)), (4, .pointer (some ⟨g0, 0, none⟩)), (6, .int .i64 (t : Int))] _
  by_cases hl : t < m
  · have z1 : (t : Int) < (m : Int) := Int.ofNat_lt.2 hl
    have tn := tnm t m hl hm
    have t5 := s512 s hs4
    have t6 := st512 s t hs4 (by omega)
    obtain ⟨u, hu⟩ : ∃ u, b[t]? = some u := ⟨b[t]'(by omega), List.getElem?_eq_getElem _⟩
    have hrd := hr.below (below_drawn wr)
    have hfd := hfx.then_below (below_drawn wr)
    obtain ⟨wd, hwd⟩ : ∃ wd, { wr with drawn := wr.drawn + 1 } = wd := ⟨_, rfl⟩
    rw [hwd] at hrd hfd
    have hsl : (settleL D.img s t b).length = D.img.length := settle_length D.img s t D.n b h.ok.len hs (by omega) hb
    obtain ⟨g, cap', hvb, hcp, hcl, hfz⟩ := hrd.image
    have hvb : L.vb = .slice (some ⟨g, 0, none⟩) (D.n * 512) cap' := hvb
    have hgb : L.vb.ownBlock = some g := by rw [hvb]; rfl
    have hj : s * 512 + t < (settleL D.img s t b).length := by rw [hsl]; omega
    have hby := hrd.byte g cap' (s * 512 + t) u hvb hj
    have hsn : s * 512 + t < D.n * 512 := by omega
    have hset : ({ ({ D with img := settleL D.img s t b } : Dv) with img := (settleL D.img s t b).set (s * 512 + t) u } : Dv) = { D with img := settleL D.img s (t + 1) b } := by rw [settle_set D.img s t b u hil hb (by omega) hu]
    rw [hset] at hby
    obtain ⟨old, hold⟩ : ∃ x, (settleL D.img s t b)[s * 512 + t]? = some x := ⟨_, List.getElem?_eq_getElem hj⟩
    have hold2 := hcl _ _ hold
    have fz := hfz (s * 512 + t)
    obtain ⟨w1, hw1⟩ : ∃ w1, wd.setCell ⟨g, s * 512 + t, none⟩ (byt u) = w1 := ⟨_, rfl⟩
    have hst := st5 (z := u) hold2 fz
    have hf1 : Fx (fun k => L.vb.ownBlock = some k) wd w1 := by rw [← hw1]; exact Fx.setCell wd g _ _ hgb
    rw [hw1] at hby hst
    have hS : ∀ V, Fx (fun k => L.vb.ownBlock = some k) w0 V → V.cell? ⟨L.p, 0, none⟩ = some (.slice (some ⟨g, 0, none⟩) (D.n * 512) cap') ∧ V.cell? ⟨g0, 0, none⟩ = some (.int .i64 (s : Int)) ∧ V.cell? ⟨g0, 1, none⟩ = some (.slice (some ad) 512 cap) ∧ V.cell? (ad.add t) = some (byt u) := fun V hV =>
      ⟨by rw [← hvb]; exact hV.cell h0.r0 h.bp, ((b0.fx hV hgn).cell 0).trans rfl, by rw [← hve]; exact ((b0.fx hV hgn).cell 1).trans rfl, hV.cell (hvc0 t u hu) (by rw [add_block]; exact hadn)⟩
    have S1 := hfd.and hf1
    refine EW.seq ?_
    refine EW.seq ?_
    refine EW.region ?_
    first | refine WL.move rfl rfl rfl ?_
    first | refine WL.move rfl rfl rfl ?_
    first | refine WL.bin rfl rfl rfl rfl (int_lt_t ‹_› _ _ _) ?_ | refine WL.bin rfl rfl rfl rfl (int_lt_f ‹_› _ _ _) ?_
    refine WL.done ?_
    refine EW.on ?_
    refine EW.cond_t rfl ?_
    refine EW.skip ?_
    refine EW.on ?_
    refine EW.seq ?_
    refine EW.block ?_
    refine EW.ord [(0, false), (1, false), (2, false), (3, false), (4, false), (5, false), (6, false), (7, false), (8, false), (9, false), (10, false), (11, false), (12, false), (13, false), (14, false), (15, true)] (fun V => Fx (fun k => L.vb.ownBlock = some k) w0 V) (by kernel_rfl) rfl (by kernel_rfl) (by rw [hwd]; exact hfd) ?_
    rw [hwd]
    simp only [ordOps, List.getD_cons_zero, List.getD_cons_succ]
    refine OE.move rfl rfl rfl ?_
    refine OE.nilc rfl rfl rfl ?_
    refine OE.field rfl rfl rfl (fun V => fld96_0 _ V) ?_
    refine OE.load rfl rfl rfl (fun V hV => ld34 (hS V hV).1) ?_
    refine OE.field rfl rfl rfl (fun V => fld78_0' _ V) ?_
    refine OE.load rfl rfl rfl (fun V hV => ld3 (hS V hV).2.1) ?_
    refine OE.bin rfl rfl rfl rfl (fun V => int_mul t5 V _ _) ?_
    refine OE.move rfl rfl rfl ?_
    refine OE.bin rfl rfl rfl rfl (fun V => int_add t6 V _ _) ?_
    refine OE.field rfl rfl rfl (fun V => fld78_1' _ V) ?_
    refine OE.load rfl rfl rfl (fun V hV => ld34 (hS V hV).2.2.1) ?_
    refine OE.move rfl rfl rfl ?_
    refine OE.index rfl rfl rfl rfl (fun V => idx34 ad 512 cap t (by omega) V) ?_
    refine OE.load rfl rfl rfl (fun V hV => ld5 (hS V hV).2.2.2) ?_
    refine OE.index rfl rfl rfl rfl (fun V => idx34c g _ _ _ hsn V) ?_
    refine OE.store (fun V => Fx (fun k => L.vb.ownBlock = some k) w0 V) rfl S1 (fun V h => h) rfl rfl hst ?_
    refine fun a ha W5 hW => ?_
    rw [hW]
    revert a ha
    refine pn_block ?_
    refine EW.on ?_
    refine EW.region ?_
    first | refine WL.move rfl rfl rfl ?_
    first | refine WL.bin rfl rfl rfl rfl (int_add ‹_› _ _ _) ?_
    first | refine WL.assign rfl rfl rfl ?_
    refine WL.done ?_
    exact EW.again (t + 1) [0, 2, 4, 6] rfl ⟨hl, S1, hby.1⟩ (by show m - (t + 1) < m - t; omega)
  · have z1 : ¬ (t : Int) < (m : Int) := fun hh => hl (Int.ofNat_lt.1 hh)
    obtain rfl : t = m := Nat.le_antisymm htm (Nat.le_of_not_lt hl)
    refine EW.seq ?_
    refine EW.seq ?_
    refine EW.region ?_
    first | refine WL.move rfl rfl rfl ?_
    first | refine WL.move rfl rfl rfl ?_
    first | refine WL.bin rfl rfl rfl rfl (int_lt_t ‹_› _ _ _) ?_ | refine WL.bin rfl rfl rfl rfl (int_lt_f ‹_› _ _ _) ?_
    refine WL.done ?_
    refine EW.on ?_
    refine EW.cond_f rfl ?_
    refine EW.exit ?_
    repeat refine px_then ?_
    refine px_block ?_
    exact EW.falls Try.results66 ⟨rfl, (Fx.of_below be0).and hfx, hr⟩
set_option maxRecDepth 100000 in
set_option maxHeartbeats 1000000 in
theorem kept_ref (v : Value) (ks : List (BitVec 64)) (torn off : Int) (k : Nat) (hk : k < 1000000000000) (w : World) (hv : Has64 w v ks) :
    Calls Try.prog 73 #[.agg (lossC v torn off).toArray, .int .i64 (k : Int)] w fun e w' => e = .returned (.bool (keptB ks k)) ∧ Below w.heap.size w w' := by
  obtain ⟨g0, hg0⟩ : ∃ g, w.heap.size = g := ⟨_, rfl⟩
  have hbox := run_boxR (P := Try.prog) 38 (lossC v torn off) w g0 hg0
  have b0 : Blk (w.alloc (.cells (lossC v torn off).toArray 38)) g0 (lossC v torn off) 38 := Blk.newAt hg0
  have be0 : Below w.heap.size w (w.alloc (.cells (lossC v torn off).toArray 38)) := below_new w _
  have hv0 := hv.below be0
  obtain ⟨w0, hw0⟩ : ∃ w0, w.alloc (.cells (lossC v torn off).toArray 38) = w0 := ⟨_, rfl⟩
  rw [hw0] at hbox b0 be0 hv0
  have c0 := (b0.cell 0).trans (show _ = some v from rfl)
  have hlen := hv.len2
  unfold keptB
  by_cases hq : k / 64 < ks.length
  · have z1 : ((k / 64 : Nat) : Int) < (ks.length : Int) := Int.ofNat_lt.2 hq
    obtain ⟨u, hu⟩ : ∃ u, ks.getD (k / 64) 0 = u := ⟨_, rfl⟩
    have hg : ks[k / 64]? = some u := by rw [← hu, List.getD_eq_getElem?_getD, List.getElem?_eq_getElem hq]; rfl
    rcases hv0 with ⟨_, e⟩ | ⟨ad, cap, e, h2, h3⟩
    · rw [e] at hq; simp at hq
    have hc := h3 _ _ hg
    rw [e] at c0 hbox hlen ⊢
    refine calls_of_args [.agg (lossC (.slice (some ad) ks.length cap) torn off).toArray, .int .i64 (k : Int)] Try.func73 rfl 24 Try.ntmps73 (by show 2 ≤ 24; decide) ?_
    refine EW.seq ?_
    refine EW.region ?_
    refine WL.box rfl rfl rfl hbox ?_
    first | refine WL.assign rfl rfl rfl ?_
    refine WL.done ?_
    refine EW.on ?_
    refine EW.seq ?_
    refine EW.region ?_
    first | refine WL.move rfl rfl rfl ?_
    refine WL.bin rfl rfl rfl rfl (quo64 k hk _ _ _) ?_
    refine WL.field rfl rfl rfl (fld38_0 _ _) ?_
    refine WL.load rfl rfl rfl (ld36 c0) ?_
    refine WL.len rfl rfl rfl (hlen _ _) ?_
    refine WL.bin rfl rfl rfl rfl (int_lt_t z1 _ _ _) ?_
    first | refine WL.move rfl rfl rfl ?_
    refine WL.field rfl rfl rfl (fld38_0 _ _) ?_
    refine WL.load rfl rfl rfl (ld36 c0) ?_
    first | refine WL.move rfl rfl rfl ?_ | refine WL.skip _ rfl rfl rfl ?_
    refine WL.bin rfl rfl rfl rfl (quo64 k hk _ _ _) ?_
    refine WL.index rfl rfl rfl rfl (idx36 ad _ cap _ hq _) ?_
    refine WL.load rfl rfl rfl (ld39 hc) ?_
    first | refine WL.move rfl rfl rfl ?_ | refine WL.skip _ rfl rfl rfl ?_
    refine WL.bin rfl rfl rfl rfl (rem64 k hk _ _ _) ?_
    refine WL.bin rfl rfl rfl rfl (shr39 u _ (Nat.mod_lt _ (by decide)) _ _ _) ?_
    refine WL.bin rfl rfl rfl rfl (and39 _ _ _ _) ?_
    refine WL.bin rfl rfl rfl rfl (eq39 _ _ _ _) ?_
    first | refine WL.pick rfl rfl rfl rfl ?_
    first | refine WL.assign rfl rfl rfl ?_
    refine WL.done ?_
    refine EW.on ?_
    refine EW.ret ?_
    repeat (first | refine pr_then ?_ | refine pr_block ?_)
    exact EW.returns Try.results73 rfl ⟨by rw [decide_eq_true hq, Bool.true_and, hu], be0⟩
  · have z1 : ¬ ((k / 64 : Nat) : Int) < (ks.length : Int) := fun hh => hq (Int.ofNat_lt.1 hh)
    refine calls_of_args [.agg (lossC v torn off).toArray, .int .i64 (k : Int)] Try.func73 rfl 24 Try.ntmps73 (by show 2 ≤ 24; decide) ?_
    refine EW.seq ?_
    refine EW.region ?_
    refine WL.box rfl rfl rfl hbox ?_
    first | refine WL.assign rfl rfl rfl ?_
    refine WL.done ?_
    refine EW.on ?_
    refine EW.seq ?_
    refine EW.region ?_
    first | refine WL.move rfl rfl rfl ?_
    refine WL.bin rfl rfl rfl rfl (quo64 k hk _ _ _) ?_
    refine WL.field rfl rfl rfl (fld38_0 _ _) ?_
    refine WL.load rfl rfl rfl (ld36 c0) ?_
    refine WL.len rfl rfl rfl (hlen _ _) ?_
    refine WL.bin rfl rfl rfl rfl (int_lt_f z1 _ _ _) ?_
    first | refine WL.move rfl rfl rfl ?_
    refine WL.skip _ rfl rfl rfl ?_
    refine WL.skip _ rfl rfl rfl ?_
    refine WL.skip _ rfl rfl rfl ?_
    refine WL.skip _ rfl rfl rfl ?_
    refine WL.skip _ rfl rfl rfl ?_
    refine WL.skip _ rfl rfl rfl ?_
    refine WL.skip _ rfl rfl rfl ?_
    refine WL.skip _ rfl rfl rfl ?_
    refine WL.skip _ rfl rfl rfl ?_
    refine WL.skip _ rfl rfl rfl ?_
    refine WL.skip _ rfl rfl rfl ?_
    first | refine WL.pick rfl rfl rfl rfl ?_
    first | refine WL.assign rfl rfl rfl ?_
    refine WL.done ?_
    refine EW.on ?_
    refine EW.ret ?_
    repeat (first | refine pr_then ?_ | refine pr_block ?_)
    exact EW.returns Try.results73 rfl ⟨by rw [decide_eq_false hq]; rfl, be0⟩
end Go.Proofs.Ythfcabhelldokaa
