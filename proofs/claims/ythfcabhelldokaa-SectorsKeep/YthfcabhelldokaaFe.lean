import Derived.Test.YthfcabhelldokaaKv
import Derived.Test.YthfcabhelldokaaEz
import Derived.Test.YthfcabhelldokaaCa
import Derived.Test.YthfcabhelldokaaUp
set_option linter.unusedVariables false
set_option linter.unusedSimpArgs false
namespace Go.Proofs.Ythfcabhelldokaa
open Go.RowKit

/-- The four sectors of an image; the first t of another one. -/
def ims4 (img : List UInt8) : List ByteArray := (List.range 4).map (secS img)
def imsT (img img' : List UInt8) (t : Nat) : List ByteArray := (List.range 4).map fun k => if k < t then secS img' k else secS img k
theorem ims4_at (img : List UInt8) (k : Nat) (h : k < 4) : (ims4 img)[k]? = some (secS img k) := by simp [ims4, h]
theorem imsT_zero (img img' : List UInt8) : imsT img img' 0 = ims4 img := by simp [imsT, ims4]
theorem imsT_four (img img' : List UInt8) : imsT img img' 4 = ims4 img' := by
  unfold imsT ims4
  exact List.map_congr_left fun k hk => by rw [if_pos (List.mem_range.1 hk)]
theorem imsT_set (img img' : List UInt8) (t : Nat) (h : t < 4) : (imsT img img' t).set t (secS img' t) = imsT img img' (t + 1) := by
  apply List.ext_getElem?
  intro j
  rw [List.getElem?_set]
  have hl : ∀ u, (imsT img img' u).length = 4 := fun u => by simp [imsT]
  by_cases hj : t = j
  · subst hj
    rw [if_pos rfl, if_pos (by rw [hl]; exact h)]
    simp [imsT, h]
  · rw [if_neg hj]
    rcases Nat.lt_or_ge j 4 with h4 | h4
    · simp only [imsT, List.getElem?_map, List.getElem?_range h4, Option.map_some]
      by_cases h5 : j < t
      · rw [if_pos h5, if_pos (by omega)]
      · rw [if_neg h5, if_neg (by omega)]
    · rw [List.getElem?_eq_none (by rw [hl]; exact h4), List.getElem?_eq_none (by rw [hl]; exact h4)]
/-- The sector that a loss tears. -/
def tornS (pen : List (Nat × List UInt8)) (torn : Int) : Int := if 0 ≤ torn ∧ torn < (pen.length : Int) then ((pen.getD torn.toNat (0, [])).1 : Int) else -1
theorem many_len (pen : List (Nat × List UInt8)) (i : Nat) (b0 : List UInt8) (h0 : b0.length = 512) (hp : ∀ x ∈ pen, x.2.length = 512) : ∀ t, t ≤ pen.length → ∀ c ∈ manyT pen i b0 t, c.length = 512
  | 0, _, c, hc => by rw [manyT, List.mem_singleton] at hc; rw [hc]; exact h0
  | t + 1, ht, c, hc => by
    have ih := many_len pen i b0 h0 hp t (by omega)
    have hge : pen.getD t (0, []) = pen[t]'(by omega) := by rw [List.getD_eq_getElem?_getD, List.getElem?_eq_getElem (by omega)]; rfl
    rw [manyT, hge] at hc
    split at hc
    · rcases List.mem_append.1 hc with h | h
      · exact ih c h
      · rw [List.mem_singleton.1 h]; exact hp _ (List.getElem_mem _)
    · exact ih c hc
/-- Behind a crash a sector is one that may be. -/
theorem may_be (pen : List (Nat × List UInt8)) (img : List UInt8) (ks : List (BitVec 64)) (torn off : Int) (i : Nat) (hi : i < 4) (hl : img.length = 4 * 512) (hp : ∀ x ∈ pen, x.1 < 4 ∧ x.2.length = 512) (tb : Bool) (ht : (i : Int) = tornS pen torn → tb = true) :
    secB (imgT (survN ks torn off) pen img pen.length) i ∈ manyT pen i (secB img i) pen.length ∨ (tb = true ∧ (secB (imgT (survN ks torn off) pen img pen.length) i).length = 512 ∧ (∀ c ∈ manyT pen i (secB img i) pen.length, c.length = 512) ∧ ∀ j, j < 512 → ∃ c ∈ manyT pen i (secB img i) pen.length, c[j]? = (secB (imgT (survN ks torn off) pen img pen.length) i)[j]?) := by
  have h0 : (secB img i).length = 512 := secB_length img 4 i hl hi
  have hf := surv_le ks torn off
  have hp2 : ∀ x ∈ pen, x.2.length = 512 := fun x hx => (hp x hx).2
  rw [sec_imgT (survN ks torn off) pen img 4 i hl hf hp hi pen.length (Nat.le_refl _)]
  by_cases hq : (i : Int) = tornS pen torn
  · exact .inr ⟨ht hq, scT_length _ pen i _ h0 hf hp2 _ (Nat.le_refl _), many_len pen i _ h0 hp2 _ (Nat.le_refl _), fun j hj => by
      obtain ⟨c, hc, e⟩ := sc_bytes (survN ks torn off) pen i (secB img i) h0 hf hp2 j hj pen.length (Nat.le_refl _)
      exact ⟨c, hc, e.symm⟩⟩
  · refine .inl (sc_whole _ pen i _ h0 hf hp2 (fun k x hk hx => surv_whole ks torn off k fun e => hq ?_) _ (Nat.le_refl _))
    have hkl : k < pen.length := (List.getElem?_eq_some_iff.1 hk).1
    have hkt : torn.toNat = k := by rw [← e]; exact Int.toNat_natCast k
    unfold tornS
    rw [if_pos ⟨by omega, by omega⟩, hkt, List.getD_eq_getElem?_getD, hk]
    exact congrArg Nat.cast hx.symm
theorem int_ge_t {a b : Int} (h : b ≤ a) (W : World) (x y : Operand) : (do eqGuard .geq 3 x y (.int .i64 a) (.int .i64 b); binOp .geq 3 (.int .i64 a) (.int .i64 b) : Sem Value).run Try.prog W = .ok (.bool true) W := by go_simp
theorem int_ge_f {a b : Int} (h : ¬ b ≤ a) (W : World) (x y : Operand) : (do eqGuard .geq 3 x y (.int .i64 a) (.int .i64 b); binOp .geq 3 (.int .i64 a) (.int .i64 b) : Sem Value).run Try.prog W = .ok (.bool false) W := by go_simp
theorem fld38_1 (g : Nat) (W : World) : (Instr.fieldAt 38 (.pointer (some ⟨g, 0, none⟩)) 1).run Try.prog W = .ok (.pointer (some ⟨g, 1, none⟩)) W := by go_simp
theorem WL.slice {P : Program} {n : Nat} {ops : Array Oper} {Q : Exit → Act → World → Prop} {i : Nat} {ty : TypeId} {ps : String} {af : Array Edge} {gd : Option (Nat × Bool)} {r : List Oper} {e : List (Nat × Value)} {w : World} {t : TypeId} {x lo hi : Operand} {u ul uh v : Value} (hw : wantE ops e ⟨some i, .slice t x (some lo) (some hi) none, ty, ps, af, gd⟩ = some true) (hi' : decide (i < n) = true) (hx : evE e x = some u) (hl : evE e lo = some ul) (hh : evE e hi = some uh) (hr : (Instr.sliceAt t u (some ul) (some uh) none).run P w = .ok v w) (k : WL P n ops Q r ((i, v) :: e) w) : WL P n ops Q (⟨some i, .slice t x (some lo) (some hi) none, ty, ps, af, gd⟩ :: r) e w :=
  WL.op i v hw rfl hi' (fun a ha => by simp [execOp, ha.ev hx, ha.ev hl, ha.ev hh, hr, Result.andThen]) k
def feE (pv : Nat) (v : Value) (tS : Int) (t : Nat) : List (Nat × Value) := [(0, .pointer (some ⟨pv, 0, none⟩)), (5, v), (6, .int .i64 tS), (7, .int .i64 (t : Int))]
def ffE (pv : Nat) (v : Value) (t : Nat) : List (Nat × Value) := [(0, .pointer (some ⟨pv, 0, none⟩)), (5, v), (9, .int .i64 (t : Int))]
theorem below_of_set {w : World} {g : Nat} {o : Nat} {v : Value} : w.heap.size ≤ (w.setCell ⟨g, o, none⟩ v).heap.size := by simp
set_option maxRecDepth 100000 in
set_option maxHeartbeats 4000000 in
theorem fell_any {w W : World} {pv : Nat} {L : Lay} {vi vl : Value} {gs : List Nat} {D : Dv} {pen : List (Nat × List UInt8)} {img : List UInt8} (h : Kp w W pv L vi vl gs D (ims4 img) pen) (hn : D.n = 4) (hdn : D.down = true) (hpen : D.pen = []) (hil : img.length = 4 * 512) (hp4 : ∀ x ∈ pen, x.1 < 4) (v : Value) (ks : List (BitVec 64)) (torn off : Int) (hD : D.img = imgT (survN ks torn off) pen img pen.length) :
    Calls Try.prog 46 #[.pointer (some ⟨pv, 0, none⟩), .agg (lossC v torn off).toArray] W fun e w' => e = .returned (.bool true) ∧ Kp w w' pv (unkL L) vi (.slice none 0 0) [] (upD D) (ims4 (upD D).img) (upD D).pen := by
  have hp : ∀ x ∈ pen, x.1 < 4 ∧ x.2.length = 512 := fun x hx => ⟨hp4 x hx, h.bk.sec x hx⟩
  have hlen := h.mine.dev.ok.len
  rw [hn] at hlen
  obtain ⟨g0, hg0⟩ : ∃ g, W.heap.size = g := ⟨_, rfl⟩
  have hbox := run_boxR (P := Try.prog) 38 (lossC v torn off) W g0 hg0
  have b0 : Blk (W.alloc (.cells (lossC v torn off).toArray 38)) g0 (lossC v torn off) 38 := Blk.newAt hg0
  have h0 := h.below (below_new W (.cells (lossC v torn off).toArray 38))
  obtain ⟨w0, hw0⟩ : ∃ w0, W.alloc (.cells (lossC v torn off).toArray 38) = w0 := ⟨_, rfl⟩
  rw [hw0] at hbox b0 h0
  clear hw0 h
  obtain ⟨gI, hgI⟩ : ∃ g, w0.heap.size = g := ⟨_, rfl⟩
  have hcp := image_any h0.mine.dev
  have h1 := h0.below (below_new w0 (.cells (D.img.map byt).toArray 5))
  have bI : Blk (w0.alloc (.cells (D.img.map byt).toArray 5)) gI (D.img.map byt) 5 := Blk.newAt hgI
  have bT := b0.on (below_new w0 (.cells (D.img.map byt).toArray 5))
  obtain ⟨w1, hw1⟩ : ∃ w1, w0.alloc (.cells (D.img.map byt).toArray 5) = w1 := ⟨_, rfl⟩
  rw [hgI, hw1, hlen] at hcp
  rw [hw1] at h1 bI bT
  have h48 : ((4 * 512 : Nat) : Int) = 2048 := by decide
  have hnI : ∀ k, bkF pv vi vl gs k → k ≠ gI := fun k hk e => by have := h0.bk.lt k hk; omega
  clear hw1
  have r0 : ∀ V, Below w1.heap.size w1 V → V.cell? ⟨pv, 0, none⟩ = some (.pointer (some ⟨L.p, 0, none⟩)) := fun V hV => (((h1.below hV).bk.bl).cell 0).trans rfl
  have r1 : ∀ V, Below w1.heap.size w1 V → V.cell? ⟨pv, 1, none⟩ = some vi := fun V hV => (((h1.below hV).bk.bl).cell 1).trans rfl
  have r2 : ∀ V, Below w1.heap.size w1 V → V.cell? ⟨pv, 2, none⟩ = some vl := fun V hV => (((h1.below hV).bk.bl).cell 2).trans rfl
  have rT : ∀ V, Below w1.heap.size w1 V → V.cell? ⟨g0, 1, none⟩ = some (.int .i64 torn) := fun V hV => ((bT.on hV).cell 1).trans rfl
  have r00 : w0.cell? ⟨pv, 0, none⟩ = some (.pointer (some ⟨L.p, 0, none⟩)) := (h0.bk.bl.cell 0).trans rfl
  have hplen := pen_len h1.bk.pl
  have hdw := down_any h1.mine.dev
  rw [hdn] at hdw
  have hca := cache_any h1.mine.dev
  rw [hpen] at hca
  have hE := hide hD
  clear hD
  refine calls_of_args [.pointer (some ⟨pv, 0, none⟩), .agg (lossC v torn off).toArray] Try.func46 rfl 131 Try.ntmps46 (by show 2 ≤ 131; decide) ?_
  refine EW.seq ?_
  refine EW.region ?_
  refine WL.box rfl rfl rfl hbox ?_
  first | refine WL.assign rfl rfl rfl ?_
  refine WL.done ?_
  refine EW.on ?_
  refine EW.seq ?_
  refine EW.region ?_
  first | refine WL.move rfl rfl rfl ?_
  first | refine WL.nilc rfl rfl rfl ?_
  first | refine WL.field rfl rfl rfl (fld32_0 _ _) ?_
  refine WL.load rfl rfl rfl (ld28 r00) ?_
  refine WL.call [.pointer (some ⟨L.p, 0, none⟩)] enter16 rfl rfl rfl hcp ?_
  rintro x w3 ⟨rfl, hz⟩
  rw [hz]; clear hz w3
  refine ⟨_, rfl, ?_⟩
  first | refine WL.assign rfl rfl rfl ?_
  refine WL.done ?_
  refine EW.on ?_
  refine EW.seq ?_
  refine EW.seq ?_
  refine EW.region ?_
  first | refine WL.move rfl rfl rfl ?_
  first | refine WL.nilc rfl rfl rfl ?_
  first | refine WL.field rfl rfl rfl (fld32_0 _ _) ?_
  refine WL.load rfl rfl rfl (ld28 (r0 _ (Below.refl _ _))) ?_
  refine WL.call [.pointer (some ⟨L.p, 0, none⟩)] enter22 rfl rfl rfl hdw ?_
  rintro x w3 ⟨rfl, hz⟩
  rw [hz]; clear hz w3
  refine ⟨_, rfl, ?_⟩
  first | refine WL.un rfl rfl rfl (not_t _ _) ?_
  first | refine WL.move rfl rfl rfl ?_
  first | refine WL.move rfl rfl rfl ?_ | refine WL.skip _ rfl rfl rfl ?_
  refine WL.len rfl rfl rfl (len34 _ _ _ _ _) ?_
  refine WL.bin rfl rfl rfl rfl (int_ne_f h48 _ _ _) ?_
  first | refine WL.pick rfl rfl rfl rfl ?_
  first | refine WL.move rfl rfl rfl ?_
  first | refine WL.move rfl rfl rfl ?_ | refine WL.skip _ rfl rfl rfl ?_
  first | refine WL.nilc rfl rfl rfl ?_ | refine WL.skip _ rfl rfl rfl ?_
  first | refine WL.field rfl rfl rfl (fld32_0 _ _) ?_ | refine WL.skip _ rfl rfl rfl ?_
  refine WL.load rfl rfl rfl (ld28 (r0 _ (Below.refl _ _))) ?_
  refine WL.call [.pointer (some ⟨L.p, 0, none⟩)] enter24 rfl rfl rfl hca ?_
  rintro x w3 ⟨rfl, be3, _, _⟩
  refine ⟨_, rfl, ?_⟩
  refine WL.len rfl rfl rfl (len30 _ _ _ _ _) ?_
  refine WL.bin rfl rfl rfl rfl (int_ne_f rfl _ _ _) ?_
  first | refine WL.pick rfl rfl rfl rfl ?_
  refine WL.done ?_
  refine EW.on ?_
  refine EW.cond_f rfl ?_
  refine EW.skip ?_
  refine EW.on ?_
  refine EW.seq ?_
  refine EW.region ?_
  first | refine WL.assign rfl rfl rfl ?_
  refine WL.done ?_
  refine EW.on ?_
  refine EW.seq ?_
  refine EW.seq ?_
  have bd : Below w1.heap.size w1 { w3 with drawn := w3.drawn + 1 } := be3.trans ((below_drawn w3).mono be3.size)
  by_cases c0 : (0 : Int) ≤ torn
  · by_cases c1 : torn < (pen.length : Int)
    · obtain ⟨tk, htk⟩ : ∃ tk : Nat, torn = (tk : Int) := ⟨torn.toNat, (Int.toNat_of_nonneg c0).symm⟩
      have htk1 : tk < pen.length := by omega
      obtain ⟨x, hx⟩ : ∃ x, pen[tk]? = some x := ⟨pen[tk]'htk1, List.getElem?_eq_getElem _⟩
      obtain ⟨gb, hgb⟩ : ∃ g, gs[tk]? = some g := ⟨gs[tk]'(by rw [h1.bk.gsl]; exact htk1), List.getElem?_eq_getElem _⟩
      obtain ⟨gp, _, hpx, hrg⟩ := pen_item h1.bk.pl tk gb x hgb hx
      have q0 : ∀ V, Below w1.heap.size w1 V → V.cell? ⟨gp, tk * 2, none⟩ = some (.int .i64 (x.1 : Int)) := fun V hV => (hV.cell (cell_lt (hrg 0 _ rfl))).trans (hrg 0 _ rfl)
      rw [← htk] at hpx
      obtain ⟨tS, htS⟩ : ∃ tS : Int, tS = tornS pen torn := ⟨_, rfl⟩
      have hxS : (x.1 : Int) = tS := by
        rw [htS]; unfold tornS; rw [if_pos ⟨c0, c1⟩, htk, Int.toNat_natCast, List.getD_eq_getElem?_getD, hx]; rfl
      rw [hxS] at q0
      refine EW.ord [(0, false), (1, false), (2, false), (3, false), (4, false), (5, false), (6, false), (7, false), (8, false), (9, false), (10, false), (11, false), (12, false)] (fun V => Below w1.heap.size w1 V) (by kernel_rfl) rfl (by kernel_rfl) bd ?_
      simp only [ordOps, List.getD_cons_zero, List.getD_cons_succ]
      refine OE.field rfl rfl rfl (fun V => fld38_1 _ V) ?_
      refine OE.load rfl rfl rfl (fun V hV => ld3 (rT V hV)) ?_
      refine OE.bin rfl rfl rfl rfl (fun V => int_ge_t c0 V _ _) ?_
      refine OE.move rfl rfl rfl ?_
      refine OE.field rfl rfl rfl (fun V => fld38_1 _ V) ?_
      refine OE.load rfl rfl rfl (fun V hV => ld3 (rT V hV)) ?_
      refine OE.move rfl rfl rfl ?_
      refine OE.nilc rfl rfl rfl ?_
      refine OE.field rfl rfl rfl (fun V => fld32_2 _ V) ?_
      refine OE.load rfl rfl rfl (fun V hV => ld30 (r2 V hV)) ?_
      refine OE.len rfl rfl rfl (fun V => hplen V _) ?_
      refine OE.bin rfl rfl rfl rfl (fun V => int_lt_t c1 V _ _) ?_
      refine OE.pick rfl rfl rfl rfl ?_
      refine fun a ha W5 hW => ?_
      rw [hW]
      revert a ha
      refine EW.on ?_
      refine EW.cond_t rfl ?_
      have bd2 : Below w1.heap.size w1 { ({ w3 with drawn := w3.drawn + 1 } : World) with drawn := w3.drawn + 1 + 1 } := bd.trans ((below_drawn _).mono bd.size)
      refine EW.ord [(0, false), (1, false), (2, false), (3, false), (4, false), (5, false), (6, false), (7, false), (8, false), (9, false)] (fun V => Below w1.heap.size w1 V) (by kernel_rfl) rfl (by kernel_rfl) bd2 ?_
      simp only [ordOps, List.getD_cons_zero, List.getD_cons_succ]
      refine OE.move rfl rfl rfl ?_
      refine OE.nilc rfl rfl rfl ?_
      refine OE.field rfl rfl rfl (fun V => fld32_2 _ V) ?_
      refine OE.load rfl rfl rfl (fun V hV => ld30 (r2 V hV)) ?_
      refine OE.field rfl rfl rfl (fun V => fld38_1 _ V) ?_
      refine OE.load rfl rfl rfl (fun V hV => ld3 (rT V hV)) ?_
      refine OE.index rfl rfl rfl rfl hpx ?_
      refine OE.field rfl rfl rfl (fun V => fld78_0 _ _ V) ?_
      refine OE.load rfl rfl rfl (fun V hV => ld3 (q0 V hV)) ?_
      refine OE.assign rfl rfl rfl ?_
      refine fun a ha W5 hW => ?_
      rw [hW]
      revert a ha
      have bdz := bd2
      obtain ⟨w4, hw4⟩ : ∃ w4, ({ ({ w3 with drawn := w3.drawn + 1 } : World) with drawn := w3.drawn + 1 + 1 } : World) = w4 := ⟨_, rfl⟩
      rw [hw4] at bdz ⊢
      clear bd bd2 be3 hw4
      refine EW.on ?_
      refine EW.seq ?_
      refine EW.seq ?_
      refine EW.region ?_
      first | refine WL.assign rfl rfl rfl ?_
      refine WL.done ?_
      refine EW.on ?_
      refine EW.block ?_
      refine EW.loop (feE pv (.slice (some ⟨gI, 0, none⟩) (4 * 512) (4 * 512)) tS) (fun t w' => t ≤ 4 ∧ Below w1.heap.size w1 w') (fun t => 4 - t) 0 [0, 5, 6, 7] rfl ⟨Nat.zero_le _, bdz⟩ ?_
      rintro t wr ⟨ht4, hbe⟩
      show EW _ _ _ _ [(0, .pointer (some ⟨pv, 0, none⟩)), (5, .slice (some ⟨gI, 0, none⟩) (4 * 512) (4 * 512)), (6, .int .i64 tS), (7, .int .i64 (t : Int))] _
      by_cases hl : t < 4
      · have z1 : (t : Int) < 4 := Int.ofNat_lt.2 hl
        have tn := tn4 t hl
        have t5 := m512 t hl
        have t6 := a512 t hl
        have hmay := fun tb ht => may_any (h1.below hbe).bk t (secB img t) (ims4_at img t hl) (secV gI 4 t) (secB D.img t) (secV_has (bI.on hbe) hlen t hl) tb (by rw [hE.out]; exact may_be pen img ks torn off t hl hil hp tb ht)
        by_cases hte : (t : Int) = tS
        · replace hmay := hmay true (fun _ => rfl)
          refine EW.seq ?_
          refine EW.seq ?_
          refine EW.region ?_
          first | refine WL.move rfl rfl rfl ?_
          first | refine WL.bin rfl rfl rfl rfl (int_lt_t ‹_› _ _ _) ?_ | refine WL.bin rfl rfl rfl rfl (int_lt_f ‹_› _ _ _) ?_
          refine WL.done ?_
          refine EW.on ?_
          refine EW.cond_t rfl ?_
          refine EW.skip ?_
          refine EW.on ?_
          refine EW.seq ?_
          refine EW.block ?_
          refine EW.seq ?_
          refine EW.region ?_
          first | refine WL.move rfl rfl rfl ?_
          first | refine WL.move rfl rfl rfl ?_
          first | refine WL.move rfl rfl rfl ?_
          first | refine WL.move rfl rfl rfl ?_
          refine WL.bin rfl rfl rfl rfl (int_mul t5 _ _ _) ?_
          first | refine WL.move rfl rfl rfl ?_
          refine WL.bin rfl rfl rfl rfl (int_mul t5 _ _ _) ?_
          refine WL.bin rfl rfl rfl rfl (int_add t6 _ _ _) ?_
          refine WL.slice rfl rfl rfl rfl rfl (secV_at gI 4 t hl _) ?_
          first | refine WL.move rfl rfl rfl ?_
          first | refine WL.move rfl rfl rfl ?_
          refine WL.bin rfl rfl rfl rfl (int_eq_t hte _ _ _) ?_
          refine WL.call [.pointer (some ⟨pv, 0, none⟩), .int .i64 (t : Int), secV gI 4 t, .bool true] enter61 rfl rfl rfl hmay ?_
          rintro x w5 ⟨rfl, be5⟩
          refine ⟨_, rfl, ?_⟩
          first | refine WL.assign rfl rfl rfl ?_
          refine WL.done ?_
          refine EW.on ?_
          refine EW.seq ?_
          refine EW.region ?_
          first | refine WL.move rfl rfl rfl ?_
          first | refine WL.un rfl rfl rfl (not_t _ _) ?_
          refine WL.done ?_
          refine EW.on ?_
          refine EW.cond_f rfl ?_
          refine EW.skip ?_
          refine pn_block ?_
          refine EW.on ?_
          refine EW.region ?_
          first | refine WL.move rfl rfl rfl ?_
          first | refine WL.bin rfl rfl rfl rfl (int_add ‹_› _ _ _) ?_
          first | refine WL.assign rfl rfl rfl ?_
          refine WL.done ?_
          exact EW.again (t + 1) [0, 5, 6, 7] rfl ⟨hl, hbe.trans (be5.mono hbe.size)⟩ (ms4 t hl)
        · replace hmay := hmay false (fun e => absurd (e.trans htS.symm) hte)
          refine EW.seq ?_
          refine EW.seq ?_
          refine EW.region ?_
          first | refine WL.move rfl rfl rfl ?_
          first | refine WL.bin rfl rfl rfl rfl (int_lt_t ‹_› _ _ _) ?_ | refine WL.bin rfl rfl rfl rfl (int_lt_f ‹_› _ _ _) ?_
          refine WL.done ?_
          refine EW.on ?_
          refine EW.cond_t rfl ?_
          refine EW.skip ?_
          refine EW.on ?_
          refine EW.seq ?_
          refine EW.block ?_
          refine EW.seq ?_
          refine EW.region ?_
          first | refine WL.move rfl rfl rfl ?_
          first | refine WL.move rfl rfl rfl ?_
          first | refine WL.move rfl rfl rfl ?_
          first | refine WL.move rfl rfl rfl ?_
          refine WL.bin rfl rfl rfl rfl (int_mul t5 _ _ _) ?_
          first | refine WL.move rfl rfl rfl ?_
          refine WL.bin rfl rfl rfl rfl (int_mul t5 _ _ _) ?_
          refine WL.bin rfl rfl rfl rfl (int_add t6 _ _ _) ?_
          refine WL.slice rfl rfl rfl rfl rfl (secV_at gI 4 t hl _) ?_
          first | refine WL.move rfl rfl rfl ?_
          first | refine WL.move rfl rfl rfl ?_
          refine WL.bin rfl rfl rfl rfl (int_eq_f hte _ _ _) ?_
          refine WL.call [.pointer (some ⟨pv, 0, none⟩), .int .i64 (t : Int), secV gI 4 t, .bool false] enter61 rfl rfl rfl hmay ?_
          rintro x w5 ⟨rfl, be5⟩
          refine ⟨_, rfl, ?_⟩
          first | refine WL.assign rfl rfl rfl ?_
          refine WL.done ?_
          refine EW.on ?_
          refine EW.seq ?_
          refine EW.region ?_
          first | refine WL.move rfl rfl rfl ?_
          first | refine WL.un rfl rfl rfl (not_t _ _) ?_
          refine WL.done ?_
          refine EW.on ?_
          refine EW.cond_f rfl ?_
          refine EW.skip ?_
          refine pn_block ?_
          refine EW.on ?_
          refine EW.region ?_
          first | refine WL.move rfl rfl rfl ?_
          first | refine WL.bin rfl rfl rfl rfl (int_add ‹_› _ _ _) ?_
          first | refine WL.assign rfl rfl rfl ?_
          refine WL.done ?_
          exact EW.again (t + 1) [0, 5, 6, 7] rfl ⟨hl, hbe.trans (be5.mono hbe.size)⟩ (ms4 t hl)
      · have z1 : ¬ (t : Int) < 4 := fun hh => hl (Int.ofNat_lt.1 hh)
        refine EW.seq ?_
        refine EW.seq ?_
        refine EW.region ?_
        first | refine WL.move rfl rfl rfl ?_
        first | refine WL.bin rfl rfl rfl rfl (int_lt_t ‹_› _ _ _) ?_ | refine WL.bin rfl rfl rfl rfl (int_lt_f ‹_› _ _ _) ?_
        refine WL.done ?_
        refine EW.on ?_
        refine EW.cond_f rfl ?_
        refine EW.exit ?_
        repeat refine px_then ?_
        refine px_block ?_
        refine EW.on ?_
        refine EW.seq ?_
        refine EW.seq ?_
        refine EW.region ?_
        first | refine WL.assign rfl rfl rfl ?_
        refine WL.done ?_
        refine EW.on ?_
        refine EW.block ?_
        refine EW.loop (ffE pv (.slice (some ⟨gI, 0, none⟩) (4 * 512) (4 * 512))) (fun t w' => t ≤ 4 ∧ Kp w w' pv L vi vl gs D (imsT img D.img t) pen ∧ Blk w' gI (D.img.map byt) 5) (fun t => 4 - t) 0 [0, 5, 9] rfl ⟨Nat.zero_le _, by rw [imsT_zero]; exact h1.below hbe, bI.on hbe⟩ ?_
        clear hbe wr hl z1 ht4 bdz
        rintro u wu ⟨hu4, hk, bu⟩
        show EW _ _ _ _ [(0, .pointer (some ⟨pv, 0, none⟩)), (5, .slice (some ⟨gI, 0, none⟩) (4 * 512) (4 * 512)), (9, .int .i64 (u : Int))] _
        by_cases hl : u < 4
        · have z1 : (u : Int) < 4 := Int.ofNat_lt.2 hl
          have tn := tn4 u hl
          have t5 := m512 u hl
          have t6 := a512 u hl
          have hkd := hk.below (below_drawn wu)
          have bud := bu.on (below_drawn wu)
          obtain ⟨wd, hwd⟩ : ∃ wd, { wu with drawn := wu.drawn + 1 } = wd := ⟨_, rfl⟩
          rw [hwd] at hkd bud
          obtain ⟨gi, old, hgi, hix, hci, hfz, hks⟩ := hkd.setIm u hl (secS D.img u)
          rw [imsT_set _ _ u hl] at hks
          have bus : Blk (wd.setCell ⟨gi, u, none⟩ (.string (secS D.img u))) gI (D.img.map byt) 5 := bud.fx (Fx.setCell (S := fun k => k = gi) wd gi u _ rfl) (fun e => hnI gi (.inr (.inl hgi)) e.symm)
          have hcell : ∀ V, V = wd ∨ V = wd.setCell ⟨gi, u, none⟩ (.string (secS D.img u)) → V.cell? ⟨pv, 1, none⟩ = some vi := fun V hV => by
            rcases hV with rfl | rfl
            · exact (hkd.bk.bl.cell 1).trans rfl
            · exact (hks.bk.bl.cell 1).trans rfl
          have hcv : ∀ V, V = wd ∨ V = wd.setCell ⟨gi, u, none⟩ (.string (secS D.img u)) → (Go.convert 34 9 (secV gI 4 u)).run Try.prog V = .ok (.string (secS D.img u)) V := fun V hV => by
            rcases hV with rfl | rfl
            · exact (secV_has bud hlen u hl).convert
            · exact (secV_has bus hlen u hl).convert
          refine EW.seq ?_
          refine EW.seq ?_
          refine EW.region ?_
          first | refine WL.move rfl rfl rfl ?_
          first | refine WL.bin rfl rfl rfl rfl (int_lt_t ‹_› _ _ _) ?_ | refine WL.bin rfl rfl rfl rfl (int_lt_f ‹_› _ _ _) ?_
          refine WL.done ?_
          refine EW.on ?_
          refine EW.cond_t rfl ?_
          refine EW.skip ?_
          refine EW.on ?_
          refine EW.seq ?_
          refine EW.block ?_
          refine EW.ord [(0, false), (1, false), (2, false), (3, false), (4, false), (5, false), (6, false), (7, false), (8, false), (9, false), (10, false), (11, false), (12, false), (13, false), (14, true)] (fun V => V = wd ∨ V = wd.setCell ⟨gi, u, none⟩ (.string (secS D.img u))) (by kernel_rfl) rfl (by kernel_rfl) (.inl hwd) ?_
          rw [hwd]
          simp only [ordOps, List.getD_cons_zero, List.getD_cons_succ]
          refine OE.move rfl rfl rfl ?_
          refine OE.nilc rfl rfl rfl ?_
          refine OE.field rfl rfl rfl (fun V => fld32_1 _ V) ?_
          refine OE.load rfl rfl rfl (fun V hV => ld29 (hcell V hV)) ?_
          refine OE.move rfl rfl rfl ?_
          refine OE.move rfl rfl rfl ?_
          refine OE.move rfl rfl rfl ?_
          refine OE.bin rfl rfl rfl rfl (fun V => int_mul t5 V _ _) ?_
          refine OE.move rfl rfl rfl ?_
          refine OE.bin rfl rfl rfl rfl (fun V => int_mul t5 V _ _) ?_
          refine OE.bin rfl rfl rfl rfl (fun V => int_add t6 V _ _) ?_
          refine OE.slice rfl rfl rfl rfl rfl (fun V => secV_at gI 4 u hl V) ?_
          refine OE.conv rfl rfl rfl hcv ?_
          refine OE.index rfl rfl rfl rfl hix ?_
          refine OE.store (fun V => V = wd ∨ V = wd.setCell ⟨gi, u, none⟩ (.string (secS D.img u))) rfl (.inr rfl) (fun V h => h) rfl rfl (st9 hci hfz) ?_
          refine fun a ha W5 hW => ?_
          rw [hW]
          revert a ha
          refine pn_block ?_
          refine EW.on ?_
          refine EW.region ?_
          first | refine WL.move rfl rfl rfl ?_
          first | refine WL.bin rfl rfl rfl rfl (int_add ‹_› _ _ _) ?_
          first | refine WL.assign rfl rfl rfl ?_
          refine WL.done ?_
          exact EW.again (u + 1) [0, 5, 9] rfl ⟨hl, hks, bus⟩ (ms4 u hl)
        · have z1 : ¬ (u : Int) < 4 := fun hh => hl (Int.ofNat_lt.1 hh)
          obtain rfl : u = 4 := Nat.le_antisymm hu4 (Nat.le_of_not_lt hl)
          rw [imsT_four] at hk
          have c2 := (hk.bk.bl.cell 2).trans (show _ = some vl from rfl)
          have f2 := hk.bk.bl.frozen 2
          have hN := hk.noList
          obtain ⟨w6, hw6⟩ : ∃ w6, wu.setCell ⟨pv, 2, none⟩ (.slice none 0 0) = w6 := ⟨_, rfl⟩
          rw [hw6] at hN
          have c0 := (hN.bk.bl.cell 0).trans (show _ = some (.pointer (some ⟨L.p, 0, none⟩)) from rfl)
          have hrd := read_no hN.mine.dev 0 (by unfold refE; rw [hdn, if_pos rfl]; decide)
          rw [show refE D 0 = 80 by unfold refE; rw [hdn]; rfl] at hrd
          have hup := up_any hN.mine.dev
          refine EW.seq ?_
          refine EW.seq ?_
          refine EW.region ?_
          first | refine WL.move rfl rfl rfl ?_
          first | refine WL.bin rfl rfl rfl rfl (int_lt_t ‹_› _ _ _) ?_ | refine WL.bin rfl rfl rfl rfl (int_lt_f ‹_› _ _ _) ?_
          refine WL.done ?_
          refine EW.on ?_
          refine EW.cond_f rfl ?_
          refine EW.exit ?_
          repeat refine px_then ?_
          refine px_block ?_
          refine EW.on ?_
          refine EW.seq ?_
          refine EW.region ?_
          first | refine WL.move rfl rfl rfl ?_
          first | refine WL.nilc rfl rfl rfl ?_
          first | refine WL.field rfl rfl rfl (fld32_2 _ _) ?_
          refine WL.store rfl rfl rfl (st30 c2 f2) ?_
          refine WL.done ?_
          rw [hw6]
          refine EW.on ?_
          refine EW.seq ?_
          refine EW.region ?_
          first | refine WL.move rfl rfl rfl ?_
          first | refine WL.nilc rfl rfl rfl ?_
          first | refine WL.field rfl rfl rfl (fld32_0 _ _) ?_
          refine WL.load rfl rfl rfl (ld28 c0) ?_
          refine WL.call [.pointer (some ⟨L.p, 0, none⟩), .int .i64 0] enter42 rfl rfl rfl hrd ?_
          rintro x w7 ⟨rfl, hz⟩
          rw [hz]; clear hz w7
          refine ⟨_, rfl, ?_⟩
          first | refine WL.move rfl rfl rfl ?_
          first | refine WL.extract rfl rfl rfl (ext_2 _ _ _).1 ?_
          first | refine WL.extract rfl rfl rfl (ext_2 _ _ _).2 ?_
          first | refine WL.assign rfl rfl rfl ?_
          first | refine WL.assign rfl rfl rfl ?_
          refine WL.done ?_
          refine EW.on ?_
          refine EW.seq ?_
          refine EW.region ?_
          first | refine WL.move rfl rfl rfl ?_
          first | refine WL.nilc rfl rfl rfl ?_
          first | refine WL.field rfl rfl rfl (fld32_0 _ _) ?_
          refine WL.load rfl rfl rfl (ld28 c0) ?_
          refine WL.call [.pointer (some ⟨L.p, 0, none⟩)] enter25 rfl rfl rfl hup ?_
          rintro x w7 ⟨rfl, ht7, hd7⟩
          refine ⟨_, rfl, ?_⟩
          first | refine WL.assign rfl rfl rfl ?_
          refine WL.done ?_
          have h7 := hN.turn ht7 hd7
          have c7 := (h7.bk.bl.cell 0).trans (show _ = some (.pointer (some ⟨L.p, 0, none⟩)) from rfl)
          have hdw7 := down_any h7.mine.dev
          have hp7 : (upD D).pen = [] := hpen
          have hrd7 := reads_any (D := upD D) h7.mine.dev (by rw [hp7]; exact h7.bk) rfl hn (fun i hi => ims4_at _ i hi)
          refine EW.on ?_
          refine EW.seq ?_
          refine EW.region ?_
          first | refine WL.move rfl rfl rfl ?_
          refine WL.bin rfl rfl rfl rfl (int_eq_t rfl _ _ _) ?_
          first | refine WL.move rfl rfl rfl ?_
          first | refine WL.move rfl rfl rfl ?_ | refine WL.skip _ rfl rfl rfl ?_
          refine WL.bin rfl rfl rfl rfl (int_eq_t rfl _ _ _) ?_
          first | refine WL.pick rfl rfl rfl rfl ?_
          first | refine WL.move rfl rfl rfl ?_
          first | refine WL.move rfl rfl rfl ?_ | refine WL.skip _ rfl rfl rfl ?_
          first | refine WL.nilc rfl rfl rfl ?_ | refine WL.skip _ rfl rfl rfl ?_
          first | refine WL.field rfl rfl rfl (fld32_0 _ _) ?_ | refine WL.skip _ rfl rfl rfl ?_
          refine WL.load rfl rfl rfl (ld28 c7) ?_
          refine WL.call [.pointer (some ⟨L.p, 0, none⟩)] enter22 rfl rfl rfl hdw7 ?_
          rintro x w8 ⟨rfl, hz⟩
          rw [hz]; clear hz w8
          refine ⟨_, rfl, ?_⟩
          first | refine WL.un rfl rfl rfl (not_t _ _) ?_ | refine WL.skip _ rfl rfl rfl ?_
          first | refine WL.pick rfl rfl rfl rfl ?_
          first | refine WL.move rfl rfl rfl ?_
          first | refine WL.move rfl rfl rfl ?_ | refine WL.skip _ rfl rfl rfl ?_
          refine WL.call [.pointer (some ⟨pv, 0, none⟩)] enter29 rfl rfl rfl hrd7 ?_
          rintro x w8 ⟨rfl, be8⟩
          refine ⟨_, rfl, ?_⟩
          first | refine WL.pick rfl rfl rfl rfl ?_
          first | refine WL.assign rfl rfl rfl ?_
          refine WL.done ?_
          refine EW.on ?_
          refine EW.ret ?_
          exact EW.returns Try.results46 rfl ⟨rfl, by rw [hp7]; exact h7.below be8⟩
    · obtain ⟨tS, htS⟩ : ∃ tS : Int, tS = tornS pen torn := ⟨_, rfl⟩
      obtain rfl : tS = -1 := by rw [htS]; unfold tornS; rw [if_neg (fun hh => c1 hh.2)]
      refine EW.ord [(0, false), (1, false), (2, false), (3, false), (4, false), (5, false), (6, false), (7, false), (8, false), (9, false), (10, false), (11, false), (12, false)] (fun V => Below w1.heap.size w1 V) (by kernel_rfl) rfl (by kernel_rfl) bd ?_
      simp only [ordOps, List.getD_cons_zero, List.getD_cons_succ]
      refine OE.field rfl rfl rfl (fun V => fld38_1 _ V) ?_
      refine OE.load rfl rfl rfl (fun V hV => ld3 (rT V hV)) ?_
      refine OE.bin rfl rfl rfl rfl (fun V => int_ge_t c0 V _ _) ?_
      refine OE.move rfl rfl rfl ?_
      refine OE.field rfl rfl rfl (fun V => fld38_1 _ V) ?_
      refine OE.load rfl rfl rfl (fun V hV => ld3 (rT V hV)) ?_
      refine OE.move rfl rfl rfl ?_
      refine OE.nilc rfl rfl rfl ?_
      refine OE.field rfl rfl rfl (fun V => fld32_2 _ V) ?_
      refine OE.load rfl rfl rfl (fun V hV => ld30 (r2 V hV)) ?_
      refine OE.len rfl rfl rfl (fun V => hplen V _) ?_
      refine OE.bin rfl rfl rfl rfl (fun V => int_lt_f c1 V _ _) ?_
      refine OE.pick rfl rfl rfl rfl ?_
      refine fun a ha W5 hW => ?_
      rw [hW]
      revert a ha
      refine EW.on ?_
      refine EW.cond_f rfl ?_
      refine EW.skip ?_
      have bdz := bd
      obtain ⟨w4, hw4⟩ : ∃ w4, ({ w3 with drawn := w3.drawn + 1 } : World) = w4 := ⟨_, rfl⟩
      rw [hw4] at bdz ⊢
      clear bd be3 hw4
      refine EW.on ?_
      refine EW.seq ?_
      refine EW.seq ?_
      refine EW.region ?_
      first | refine WL.assign rfl rfl rfl ?_
      refine WL.done ?_
      refine EW.on ?_
      refine EW.block ?_
      refine EW.loop (feE pv (.slice (some ⟨gI, 0, none⟩) (4 * 512) (4 * 512)) (-1)) (fun t w' => t ≤ 4 ∧ Below w1.heap.size w1 w') (fun t => 4 - t) 0 [0, 5, 6, 7] rfl ⟨Nat.zero_le _, bdz⟩ ?_
      rintro t wr ⟨ht4, hbe⟩
      show EW _ _ _ _ [(0, .pointer (some ⟨pv, 0, none⟩)), (5, .slice (some ⟨gI, 0, none⟩) (4 * 512) (4 * 512)), (6, .int .i64 (-1)), (7, .int .i64 (t : Int))] _
      by_cases hl : t < 4
      · have z1 : (t : Int) < 4 := Int.ofNat_lt.2 hl
        have tn := tn4 t hl
        have t5 := m512 t hl
        have t6 := a512 t hl
        have hmay := fun tb ht => may_any (h1.below hbe).bk t (secB img t) (ims4_at img t hl) (secV gI 4 t) (secB D.img t) (secV_has (bI.on hbe) hlen t hl) tb (by rw [hE.out]; exact may_be pen img ks torn off t hl hil hp tb ht)
        by_cases hte : (t : Int) = -1
        · replace hmay := hmay true (fun _ => rfl)
          refine EW.seq ?_
          refine EW.seq ?_
          refine EW.region ?_
          first | refine WL.move rfl rfl rfl ?_
          first | refine WL.bin rfl rfl rfl rfl (int_lt_t ‹_› _ _ _) ?_ | refine WL.bin rfl rfl rfl rfl (int_lt_f ‹_› _ _ _) ?_
          refine WL.done ?_
          refine EW.on ?_
          refine EW.cond_t rfl ?_
          refine EW.skip ?_
          refine EW.on ?_
          refine EW.seq ?_
          refine EW.block ?_
          refine EW.seq ?_
          refine EW.region ?_
          first | refine WL.move rfl rfl rfl ?_
          first | refine WL.move rfl rfl rfl ?_
          first | refine WL.move rfl rfl rfl ?_
          first | refine WL.move rfl rfl rfl ?_
          refine WL.bin rfl rfl rfl rfl (int_mul t5 _ _ _) ?_
          first | refine WL.move rfl rfl rfl ?_
          refine WL.bin rfl rfl rfl rfl (int_mul t5 _ _ _) ?_
          refine WL.bin rfl rfl rfl rfl (int_add t6 _ _ _) ?_
          refine WL.slice rfl rfl rfl rfl rfl (secV_at gI 4 t hl _) ?_
          first | refine WL.move rfl rfl rfl ?_
          first | refine WL.move rfl rfl rfl ?_
          refine WL.bin rfl rfl rfl rfl (int_eq_t hte _ _ _) ?_
          refine WL.call [.pointer (some ⟨pv, 0, none⟩), .int .i64 (t : Int), secV gI 4 t, .bool true] enter61 rfl rfl rfl hmay ?_
          rintro x w5 ⟨rfl, be5⟩
          refine ⟨_, rfl, ?_⟩
          first | refine WL.assign rfl rfl rfl ?_
          refine WL.done ?_
          refine EW.on ?_
          refine EW.seq ?_
          refine EW.region ?_
          first | refine WL.move rfl rfl rfl ?_
          first | refine WL.un rfl rfl rfl (not_t _ _) ?_
          refine WL.done ?_
          refine EW.on ?_
          refine EW.cond_f rfl ?_
          refine EW.skip ?_
          refine pn_block ?_
          refine EW.on ?_
          refine EW.region ?_
          first | refine WL.move rfl rfl rfl ?_
          first | refine WL.bin rfl rfl rfl rfl (int_add ‹_› _ _ _) ?_
          first | refine WL.assign rfl rfl rfl ?_
          refine WL.done ?_
          exact EW.again (t + 1) [0, 5, 6, 7] rfl ⟨hl, hbe.trans (be5.mono hbe.size)⟩ (ms4 t hl)
        · replace hmay := hmay false (fun e => absurd (e.trans htS.symm) hte)
          refine EW.seq ?_
          refine EW.seq ?_
          refine EW.region ?_
          first | refine WL.move rfl rfl rfl ?_
          first | refine WL.bin rfl rfl rfl rfl (int_lt_t ‹_› _ _ _) ?_ | refine WL.bin rfl rfl rfl rfl (int_lt_f ‹_› _ _ _) ?_
          refine WL.done ?_
          refine EW.on ?_
          refine EW.cond_t rfl ?_
          refine EW.skip ?_
          refine EW.on ?_
          refine EW.seq ?_
          refine EW.block ?_
          refine EW.seq ?_
          refine EW.region ?_
          first | refine WL.move rfl rfl rfl ?_
          first | refine WL.move rfl rfl rfl ?_
          first | refine WL.move rfl rfl rfl ?_
          first | refine WL.move rfl rfl rfl ?_
          refine WL.bin rfl rfl rfl rfl (int_mul t5 _ _ _) ?_
          first | refine WL.move rfl rfl rfl ?_
          refine WL.bin rfl rfl rfl rfl (int_mul t5 _ _ _) ?_
          refine WL.bin rfl rfl rfl rfl (int_add t6 _ _ _) ?_
          refine WL.slice rfl rfl rfl rfl rfl (secV_at gI 4 t hl _) ?_
          first | refine WL.move rfl rfl rfl ?_
          first | refine WL.move rfl rfl rfl ?_
          refine WL.bin rfl rfl rfl rfl (int_eq_f hte _ _ _) ?_
          refine WL.call [.pointer (some ⟨pv, 0, none⟩), .int .i64 (t : Int), secV gI 4 t, .bool false] enter61 rfl rfl rfl hmay ?_
          rintro x w5 ⟨rfl, be5⟩
          refine ⟨_, rfl, ?_⟩
          first | refine WL.assign rfl rfl rfl ?_
          refine WL.done ?_
          refine EW.on ?_
          refine EW.seq ?_
          refine EW.region ?_
          first | refine WL.move rfl rfl rfl ?_
          first | refine WL.un rfl rfl rfl (not_t _ _) ?_
          refine WL.done ?_
          refine EW.on ?_
          refine EW.cond_f rfl ?_
          refine EW.skip ?_
          refine pn_block ?_
          refine EW.on ?_
          refine EW.region ?_
          first | refine WL.move rfl rfl rfl ?_
          first | refine WL.bin rfl rfl rfl rfl (int_add ‹_› _ _ _) ?_
          first | refine WL.assign rfl rfl rfl ?_
          refine WL.done ?_
          exact EW.again (t + 1) [0, 5, 6, 7] rfl ⟨hl, hbe.trans (be5.mono hbe.size)⟩ (ms4 t hl)
      · have z1 : ¬ (t : Int) < 4 := fun hh => hl (Int.ofNat_lt.1 hh)
        refine EW.seq ?_
        refine EW.seq ?_
        refine EW.region ?_
        first | refine WL.move rfl rfl rfl ?_
        first | refine WL.bin rfl rfl rfl rfl (int_lt_t ‹_› _ _ _) ?_ | refine WL.bin rfl rfl rfl rfl (int_lt_f ‹_› _ _ _) ?_
        refine WL.done ?_
        refine EW.on ?_
        refine EW.cond_f rfl ?_
        refine EW.exit ?_
        repeat refine px_then ?_
        refine px_block ?_
        refine EW.on ?_
        refine EW.seq ?_
        refine EW.seq ?_
        refine EW.region ?_
        first | refine WL.assign rfl rfl rfl ?_
        refine WL.done ?_
        refine EW.on ?_
        refine EW.block ?_
        refine EW.loop (ffE pv (.slice (some ⟨gI, 0, none⟩) (4 * 512) (4 * 512))) (fun t w' => t ≤ 4 ∧ Kp w w' pv L vi vl gs D (imsT img D.img t) pen ∧ Blk w' gI (D.img.map byt) 5) (fun t => 4 - t) 0 [0, 5, 9] rfl ⟨Nat.zero_le _, by rw [imsT_zero]; exact h1.below hbe, bI.on hbe⟩ ?_
        clear hbe wr hl z1 ht4 bdz
        rintro u wu ⟨hu4, hk, bu⟩
        show EW _ _ _ _ [(0, .pointer (some ⟨pv, 0, none⟩)), (5, .slice (some ⟨gI, 0, none⟩) (4 * 512) (4 * 512)), (9, .int .i64 (u : Int))] _
        by_cases hl : u < 4
        · have z1 : (u : Int) < 4 := Int.ofNat_lt.2 hl
          have tn := tn4 u hl
          have t5 := m512 u hl
          have t6 := a512 u hl
          have hkd := hk.below (below_drawn wu)
          have bud := bu.on (below_drawn wu)
          obtain ⟨wd, hwd⟩ : ∃ wd, { wu with drawn := wu.drawn + 1 } = wd := ⟨_, rfl⟩
          rw [hwd] at hkd bud
          obtain ⟨gi, old, hgi, hix, hci, hfz, hks⟩ := hkd.setIm u hl (secS D.img u)
          rw [imsT_set _ _ u hl] at hks
          have bus : Blk (wd.setCell ⟨gi, u, none⟩ (.string (secS D.img u))) gI (D.img.map byt) 5 := bud.fx (Fx.setCell (S := fun k => k = gi) wd gi u _ rfl) (fun e => hnI gi (.inr (.inl hgi)) e.symm)
          have hcell : ∀ V, V = wd ∨ V = wd.setCell ⟨gi, u, none⟩ (.string (secS D.img u)) → V.cell? ⟨pv, 1, none⟩ = some vi := fun V hV => by
            rcases hV with rfl | rfl
            · exact (hkd.bk.bl.cell 1).trans rfl
            · exact (hks.bk.bl.cell 1).trans rfl
          have hcv : ∀ V, V = wd ∨ V = wd.setCell ⟨gi, u, none⟩ (.string (secS D.img u)) → (Go.convert 34 9 (secV gI 4 u)).run Try.prog V = .ok (.string (secS D.img u)) V := fun V hV => by
            rcases hV with rfl | rfl
            · exact (secV_has bud hlen u hl).convert
            · exact (secV_has bus hlen u hl).convert
          refine EW.seq ?_
          refine EW.seq ?_
          refine EW.region ?_
          first | refine WL.move rfl rfl rfl ?_
          first | refine WL.bin rfl rfl rfl rfl (int_lt_t ‹_› _ _ _) ?_ | refine WL.bin rfl rfl rfl rfl (int_lt_f ‹_› _ _ _) ?_
          refine WL.done ?_
          refine EW.on ?_
          refine EW.cond_t rfl ?_
          refine EW.skip ?_
          refine EW.on ?_
          refine EW.seq ?_
          refine EW.block ?_
          refine EW.ord [(0, false), (1, false), (2, false), (3, false), (4, false), (5, false), (6, false), (7, false), (8, false), (9, false), (10, false), (11, false), (12, false), (13, false), (14, true)] (fun V => V = wd ∨ V = wd.setCell ⟨gi, u, none⟩ (.string (secS D.img u))) (by kernel_rfl) rfl (by kernel_rfl) (.inl hwd) ?_
          rw [hwd]
          simp only [ordOps, List.getD_cons_zero, List.getD_cons_succ]
          refine OE.move rfl rfl rfl ?_
          refine OE.nilc rfl rfl rfl ?_
          refine OE.field rfl rfl rfl (fun V => fld32_1 _ V) ?_
          refine OE.load rfl rfl rfl (fun V hV => ld29 (hcell V hV)) ?_
          refine OE.move rfl rfl rfl ?_
          refine OE.move rfl rfl rfl ?_
          refine OE.move rfl rfl rfl ?_
          refine OE.bin rfl rfl rfl rfl (fun V => int_mul t5 V _ _) ?_
          refine OE.move rfl rfl rfl ?_
          refine OE.bin rfl rfl rfl rfl (fun V => int_mul t5 V _ _) ?_
          refine OE.bin rfl rfl rfl rfl (fun V => int_add t6 V _ _) ?_
          refine OE.slice rfl rfl rfl rfl rfl (fun V => secV_at gI 4 u hl V) ?_
          refine OE.conv rfl rfl rfl hcv ?_
          refine OE.index rfl rfl rfl rfl hix ?_
          refine OE.store (fun V => V = wd ∨ V = wd.setCell ⟨gi, u, none⟩ (.string (secS D.img u))) rfl (.inr rfl) (fun V h => h) rfl rfl (st9 hci hfz) ?_
          refine fun a ha W5 hW => ?_
          rw [hW]
          revert a ha
          refine pn_block ?_
          refine EW.on ?_
          refine EW.region ?_
          first | refine WL.move rfl rfl rfl ?_
          first | refine WL.bin rfl rfl rfl rfl (int_add ‹_› _ _ _) ?_
          first | refine WL.assign rfl rfl rfl ?_
          refine WL.done ?_
          exact EW.again (u + 1) [0, 5, 9] rfl ⟨hl, hks, bus⟩ (ms4 u hl)
        · have z1 : ¬ (u : Int) < 4 := fun hh => hl (Int.ofNat_lt.1 hh)
          obtain rfl : u = 4 := Nat.le_antisymm hu4 (Nat.le_of_not_lt hl)
          rw [imsT_four] at hk
          have c2 := (hk.bk.bl.cell 2).trans (show _ = some vl from rfl)
          have f2 := hk.bk.bl.frozen 2
          have hN := hk.noList
          obtain ⟨w6, hw6⟩ : ∃ w6, wu.setCell ⟨pv, 2, none⟩ (.slice none 0 0) = w6 := ⟨_, rfl⟩
          rw [hw6] at hN
          have c0 := (hN.bk.bl.cell 0).trans (show _ = some (.pointer (some ⟨L.p, 0, none⟩)) from rfl)
          have hrd := read_no hN.mine.dev 0 (by unfold refE; rw [hdn, if_pos rfl]; decide)
          rw [show refE D 0 = 80 by unfold refE; rw [hdn]; rfl] at hrd
          have hup := up_any hN.mine.dev
          refine EW.seq ?_
          refine EW.seq ?_
          refine EW.region ?_
          first | refine WL.move rfl rfl rfl ?_
          first | refine WL.bin rfl rfl rfl rfl (int_lt_t ‹_› _ _ _) ?_ | refine WL.bin rfl rfl rfl rfl (int_lt_f ‹_› _ _ _) ?_
          refine WL.done ?_
          refine EW.on ?_
          refine EW.cond_f rfl ?_
          refine EW.exit ?_
          repeat refine px_then ?_
          refine px_block ?_
          refine EW.on ?_
          refine EW.seq ?_
          refine EW.region ?_
          first | refine WL.move rfl rfl rfl ?_
          first | refine WL.nilc rfl rfl rfl ?_
          first | refine WL.field rfl rfl rfl (fld32_2 _ _) ?_
          refine WL.store rfl rfl rfl (st30 c2 f2) ?_
          refine WL.done ?_
          rw [hw6]
          refine EW.on ?_
          refine EW.seq ?_
          refine EW.region ?_
          first | refine WL.move rfl rfl rfl ?_
          first | refine WL.nilc rfl rfl rfl ?_
          first | refine WL.field rfl rfl rfl (fld32_0 _ _) ?_
          refine WL.load rfl rfl rfl (ld28 c0) ?_
          refine WL.call [.pointer (some ⟨L.p, 0, none⟩), .int .i64 0] enter42 rfl rfl rfl hrd ?_
          rintro x w7 ⟨rfl, hz⟩
          rw [hz]; clear hz w7
          refine ⟨_, rfl, ?_⟩
          first | refine WL.move rfl rfl rfl ?_
          first | refine WL.extract rfl rfl rfl (ext_2 _ _ _).1 ?_
          first | refine WL.extract rfl rfl rfl (ext_2 _ _ _).2 ?_
          first | refine WL.assign rfl rfl rfl ?_
          first | refine WL.assign rfl rfl rfl ?_
          refine WL.done ?_
          refine EW.on ?_
          refine EW.seq ?_
          refine EW.region ?_
          first | refine WL.move rfl rfl rfl ?_
          first | refine WL.nilc rfl rfl rfl ?_
          first | refine WL.field rfl rfl rfl (fld32_0 _ _) ?_
          refine WL.load rfl rfl rfl (ld28 c0) ?_
          refine WL.call [.pointer (some ⟨L.p, 0, none⟩)] enter25 rfl rfl rfl hup ?_
          rintro x w7 ⟨rfl, ht7, hd7⟩
          refine ⟨_, rfl, ?_⟩
          first | refine WL.assign rfl rfl rfl ?_
          refine WL.done ?_
          have h7 := hN.turn ht7 hd7
          have c7 := (h7.bk.bl.cell 0).trans (show _ = some (.pointer (some ⟨L.p, 0, none⟩)) from rfl)
          have hdw7 := down_any h7.mine.dev
          have hp7 : (upD D).pen = [] := hpen
          have hrd7 := reads_any (D := upD D) h7.mine.dev (by rw [hp7]; exact h7.bk) rfl hn (fun i hi => ims4_at _ i hi)
          refine EW.on ?_
          refine EW.seq ?_
          refine EW.region ?_
          first | refine WL.move rfl rfl rfl ?_
          refine WL.bin rfl rfl rfl rfl (int_eq_t rfl _ _ _) ?_
          first | refine WL.move rfl rfl rfl ?_
          first | refine WL.move rfl rfl rfl ?_ | refine WL.skip _ rfl rfl rfl ?_
          refine WL.bin rfl rfl rfl rfl (int_eq_t rfl _ _ _) ?_
          first | refine WL.pick rfl rfl rfl rfl ?_
          first | refine WL.move rfl rfl rfl ?_
          first | refine WL.move rfl rfl rfl ?_ | refine WL.skip _ rfl rfl rfl ?_
          first | refine WL.nilc rfl rfl rfl ?_ | refine WL.skip _ rfl rfl rfl ?_
          first | refine WL.field rfl rfl rfl (fld32_0 _ _) ?_ | refine WL.skip _ rfl rfl rfl ?_
          refine WL.load rfl rfl rfl (ld28 c7) ?_
          refine WL.call [.pointer (some ⟨L.p, 0, none⟩)] enter22 rfl rfl rfl hdw7 ?_
          rintro x w8 ⟨rfl, hz⟩
          rw [hz]; clear hz w8
          refine ⟨_, rfl, ?_⟩
          first | refine WL.un rfl rfl rfl (not_t _ _) ?_ | refine WL.skip _ rfl rfl rfl ?_
          first | refine WL.pick rfl rfl rfl rfl ?_
          first | refine WL.move rfl rfl rfl ?_
          first | refine WL.move rfl rfl rfl ?_ | refine WL.skip _ rfl rfl rfl ?_
          refine WL.call [.pointer (some ⟨pv, 0, none⟩)] enter29 rfl rfl rfl hrd7 ?_
          rintro x w8 ⟨rfl, be8⟩
          refine ⟨_, rfl, ?_⟩
          first | refine WL.pick rfl rfl rfl rfl ?_
          first | refine WL.assign rfl rfl rfl ?_
          refine WL.done ?_
          refine EW.on ?_
          refine EW.ret ?_
          exact EW.returns Try.results46 rfl ⟨rfl, by rw [hp7]; exact h7.below be8⟩
  · obtain ⟨tS, htS⟩ : ∃ tS : Int, tS = tornS pen torn := ⟨_, rfl⟩
    obtain rfl : tS = -1 := by rw [htS]; unfold tornS; rw [if_neg (fun hh => c0 hh.1)]
    refine EW.ord [(0, false), (1, false), (2, false), (3, false), (4, false), (5, false), (6, false), (7, false), (8, false), (9, false), (10, false), (11, false), (12, false)] (fun V => Below w1.heap.size w1 V) (by kernel_rfl) rfl (by kernel_rfl) bd ?_
    simp only [ordOps, List.getD_cons_zero, List.getD_cons_succ]
    refine OE.field rfl rfl rfl (fun V => fld38_1 _ V) ?_
    refine OE.load rfl rfl rfl (fun V hV => ld3 (rT V hV)) ?_
    refine OE.bin rfl rfl rfl rfl (fun V => int_ge_f c0 V _ _) ?_
    refine OE.move rfl rfl rfl ?_
    refine OE.skip rfl rfl ?_
    refine OE.skip rfl rfl ?_
    refine OE.skip rfl rfl ?_
    refine OE.skip rfl rfl ?_
    refine OE.skip rfl rfl ?_
    refine OE.skip rfl rfl ?_
    refine OE.skip rfl rfl ?_
    refine OE.skip rfl rfl ?_
    refine OE.pick rfl rfl rfl rfl ?_
    refine fun a ha W5 hW => ?_
    rw [hW]
    revert a ha
    refine EW.on ?_
    refine EW.cond_f rfl ?_
    refine EW.skip ?_
    have bdz := bd
    obtain ⟨w4, hw4⟩ : ∃ w4, ({ w3 with drawn := w3.drawn + 1 } : World) = w4 := ⟨_, rfl⟩
    rw [hw4] at bdz ⊢
    clear bd be3 hw4
    refine EW.on ?_
    refine EW.seq ?_
    refine EW.seq ?_
    refine EW.region ?_
    first | refine WL.assign rfl rfl rfl ?_
    refine WL.done ?_
    refine EW.on ?_
    refine EW.block ?_
    refine EW.loop (feE pv (.slice (some ⟨gI, 0, none⟩) (4 * 512) (4 * 512)) (-1)) (fun t w' => t ≤ 4 ∧ Below w1.heap.size w1 w') (fun t => 4 - t) 0 [0, 5, 6, 7] rfl ⟨Nat.zero_le _, bdz⟩ ?_
    rintro t wr ⟨ht4, hbe⟩
    show EW _ _ _ _ [(0, .pointer (some ⟨pv, 0, none⟩)), (5, .slice (some ⟨gI, 0, none⟩) (4 * 512) (4 * 512)), (6, .int .i64 (-1)), (7, .int .i64 (t : Int))] _
    by_cases hl : t < 4
    · have z1 : (t : Int) < 4 := Int.ofNat_lt.2 hl
      have tn := tn4 t hl
      have t5 := m512 t hl
      have t6 := a512 t hl
      have hmay := fun tb ht => may_any (h1.below hbe).bk t (secB img t) (ims4_at img t hl) (secV gI 4 t) (secB D.img t) (secV_has (bI.on hbe) hlen t hl) tb (by rw [hE.out]; exact may_be pen img ks torn off t hl hil hp tb ht)
      by_cases hte : (t : Int) = -1
      · replace hmay := hmay true (fun _ => rfl)
        refine EW.seq ?_
        refine EW.seq ?_
        refine EW.region ?_
        first | refine WL.move rfl rfl rfl ?_
        first | refine WL.bin rfl rfl rfl rfl (int_lt_t ‹_› _ _ _) ?_ | refine WL.bin rfl rfl rfl rfl (int_lt_f ‹_› _ _ _) ?_
        refine WL.done ?_
        refine EW.on ?_
        refine EW.cond_t rfl ?_
        refine EW.skip ?_
        refine EW.on ?_
        refine EW.seq ?_
        refine EW.block ?_
        refine EW.seq ?_
        refine EW.region ?_
        first | refine WL.move rfl rfl rfl ?_
        first | refine WL.move rfl rfl rfl ?_
        first | refine WL.move rfl rfl rfl ?_
        first | refine WL.move rfl rfl rfl ?_
        refine WL.bin rfl rfl rfl rfl (int_mul t5 _ _ _) ?_
        first | refine WL.move rfl rfl rfl ?_
        refine WL.bin rfl rfl rfl rfl (int_mul t5 _ _ _) ?_
        refine WL.bin rfl rfl rfl rfl (int_add t6 _ _ _) ?_
        refine WL.slice rfl rfl rfl rfl rfl (secV_at gI 4 t hl _) ?_
        first | refine WL.move rfl rfl rfl ?_
        first | refine WL.move rfl rfl rfl ?_
        refine WL.bin rfl rfl rfl rfl (int_eq_t hte _ _ _) ?_
        refine WL.call [.pointer (some ⟨pv, 0, none⟩), .int .i64 (t : Int), secV gI 4 t, .bool true] enter61 rfl rfl rfl hmay ?_
        rintro x w5 ⟨rfl, be5⟩
        refine ⟨_, rfl, ?_⟩
        first | refine WL.assign rfl rfl rfl ?_
        refine WL.done ?_
        refine EW.on ?_
        refine EW.seq ?_
        refine EW.region ?_
        first | refine WL.move rfl rfl rfl ?_
        first | refine WL.un rfl rfl rfl (not_t _ _) ?_
        refine WL.done ?_
        refine EW.on ?_
        refine EW.cond_f rfl ?_
        refine EW.skip ?_
        refine pn_block ?_
        refine EW.on ?_
        refine EW.region ?_
        first | refine WL.move rfl rfl rfl ?_
        first | refine WL.bin rfl rfl rfl rfl (int_add ‹_› _ _ _) ?_
        first | refine WL.assign rfl rfl rfl ?_
        refine WL.done ?_
        exact EW.again (t + 1) [0, 5, 6, 7] rfl ⟨hl, hbe.trans (be5.mono hbe.size)⟩ (ms4 t hl)
      · replace hmay := hmay false (fun e => absurd (e.trans htS.symm) hte)
        refine EW.seq ?_
        refine EW.seq ?_
        refine EW.region ?_
        first | refine WL.move rfl rfl rfl ?_
        first | refine WL.bin rfl rfl rfl rfl (int_lt_t ‹_› _ _ _) ?_ | refine WL.bin rfl rfl rfl rfl (int_lt_f ‹_› _ _ _) ?_
        refine WL.done ?_
        refine EW.on ?_
        refine EW.cond_t rfl ?_
        refine EW.skip ?_
        refine EW.on ?_
        refine EW.seq ?_
        refine EW.block ?_
        refine EW.seq ?_
        refine EW.region ?_
        first | refine WL.move rfl rfl rfl ?_
        first | refine WL.move rfl rfl rfl ?_
        first | refine WL.move rfl rfl rfl ?_
        first | refine WL.move rfl rfl rfl ?_
        refine WL.bin rfl rfl rfl rfl (int_mul t5 _ _ _) ?_
        first | refine WL.move rfl rfl rfl ?_
        refine WL.bin rfl rfl rfl rfl (int_mul t5 _ _ _) ?_
        refine WL.bin rfl rfl rfl rfl (int_add t6 _ _ _) ?_
        refine WL.slice rfl rfl rfl rfl rfl (secV_at gI 4 t hl _) ?_
        first | refine WL.move rfl rfl rfl ?_
        first | refine WL.move rfl rfl rfl ?_
        refine WL.bin rfl rfl rfl rfl (int_eq_f hte _ _ _) ?_
        refine WL.call [.pointer (some ⟨pv, 0, none⟩), .int .i64 (t : Int), secV gI 4 t, .bool false] enter61 rfl rfl rfl hmay ?_
        rintro x w5 ⟨rfl, be5⟩
        refine ⟨_, rfl, ?_⟩
        first | refine WL.assign rfl rfl rfl ?_
        refine WL.done ?_
        refine EW.on ?_
        refine EW.seq ?_
        refine EW.region ?_
        first | refine WL.move rfl rfl rfl ?_
        first | refine WL.un rfl rfl rfl (not_t _ _) ?_
        refine WL.done ?_
        refine EW.on ?_
        refine EW.cond_f rfl ?_
        refine EW.skip ?_
        refine pn_block ?_
        refine EW.on ?_
        refine EW.region ?_
        first | refine WL.move rfl rfl rfl ?_
        first | refine WL.bin rfl rfl rfl rfl (int_add ‹_› _ _ _) ?_
        first | refine WL.assign rfl rfl rfl ?_
        refine WL.done ?_
        exact EW.again (t + 1) [0, 5, 6, 7] rfl ⟨hl, hbe.trans (be5.mono hbe.size)⟩ (ms4 t hl)
    · have z1 : ¬ (t : Int) < 4 := fun hh => hl (Int.ofNat_lt.1 hh)
      refine EW.seq ?_
      refine EW.seq ?_
      refine EW.region ?_
      first | refine WL.move rfl rfl rfl ?_
      first | refine WL.bin rfl rfl rfl rfl (int_lt_t ‹_› _ _ _) ?_ | refine WL.bin rfl rfl rfl rfl (int_lt_f ‹_› _ _ _) ?_
      refine WL.done ?_
      refine EW.on ?_
      refine EW.cond_f rfl ?_
      refine EW.exit ?_
      repeat refine px_then ?_
      refine px_block ?_
      refine EW.on ?_
      refine EW.seq ?_
      refine EW.seq ?_
      refine EW.region ?_
      first | refine WL.assign rfl rfl rfl ?_
      refine WL.done ?_
      refine EW.on ?_
      refine EW.block ?_
      refine EW.loop (ffE pv (.slice (some ⟨gI, 0, none⟩) (4 * 512) (4 * 512))) (fun t w' => t ≤ 4 ∧ Kp w w' pv L vi vl gs D (imsT img D.img t) pen ∧ Blk w' gI (D.img.map byt) 5) (fun t => 4 - t) 0 [0, 5, 9] rfl ⟨Nat.zero_le _, by rw [imsT_zero]; exact h1.below hbe, bI.on hbe⟩ ?_
      clear hbe wr hl z1 ht4 bdz
      rintro u wu ⟨hu4, hk, bu⟩
      show EW _ _ _ _ [(0, .pointer (some ⟨pv, 0, none⟩)), (5, .slice (some ⟨gI, 0, none⟩) (4 * 512) (4 * 512)), (9, .int .i64 (u : Int))] _
      by_cases hl : u < 4
      · have z1 : (u : Int) < 4 := Int.ofNat_lt.2 hl
        have tn := tn4 u hl
        have t5 := m512 u hl
        have t6 := a512 u hl
        have hkd := hk.below (below_drawn wu)
        have bud := bu.on (below_drawn wu)
        obtain ⟨wd, hwd⟩ : ∃ wd, { wu with drawn := wu.drawn + 1 } = wd := ⟨_, rfl⟩
        rw [hwd] at hkd bud
        obtain ⟨gi, old, hgi, hix, hci, hfz, hks⟩ := hkd.setIm u hl (secS D.img u)
        rw [imsT_set _ _ u hl] at hks
        have bus : Blk (wd.setCell ⟨gi, u, none⟩ (.string (secS D.img u))) gI (D.img.map byt) 5 := bud.fx (Fx.setCell (S := fun k => k = gi) wd gi u _ rfl) (fun e => hnI gi (.inr (.inl hgi)) e.symm)
        have hcell : ∀ V, V = wd ∨ V = wd.setCell ⟨gi, u, none⟩ (.string (secS D.img u)) → V.cell? ⟨pv, 1, none⟩ = some vi := fun V hV => by
          rcases hV with rfl | rfl
          · exact (hkd.bk.bl.cell 1).trans rfl
          · exact (hks.bk.bl.cell 1).trans rfl
        have hcv : ∀ V, V = wd ∨ V = wd.setCell ⟨gi, u, none⟩ (.string (secS D.img u)) → (Go.convert 34 9 (secV gI 4 u)).run Try.prog V = .ok (.string (secS D.img u)) V := fun V hV => by
          rcases hV with rfl | rfl
          · exact (secV_has bud hlen u hl).convert
          · exact (secV_has bus hlen u hl).convert
        refine EW.seq ?_
        refine EW.seq ?_
        refine EW.region ?_
        first | refine WL.move rfl rfl rfl ?_
        first | refine WL.bin rfl rfl rfl rfl (int_lt_t ‹_› _ _ _) ?_ | refine WL.bin rfl rfl rfl rfl (int_lt_f ‹_› _ _ _) ?_
        refine WL.done ?_
        refine EW.on ?_
        refine EW.cond_t rfl ?_
        refine EW.skip ?_
        refine EW.on ?_
        refine EW.seq ?_
        refine EW.block ?_
        refine EW.ord [(0, false), (1, false), (2, false), (3, false), (4, false), (5, false), (6, false), (7, false), (8, false), (9, false), (10, false), (11, false), (12, false), (13, false), (14, true)] (fun V => V = wd ∨ V = wd.setCell ⟨gi, u, none⟩ (.string (secS D.img u))) (by kernel_rfl) rfl (by kernel_rfl) (.inl hwd) ?_
        rw [hwd]
        simp only [ordOps, List.getD_cons_zero, List.getD_cons_succ]
        refine OE.move rfl rfl rfl ?_
        refine OE.nilc rfl rfl rfl ?_
        refine OE.field rfl rfl rfl (fun V => fld32_1 _ V) ?_
        refine OE.load rfl rfl rfl (fun V hV => ld29 (hcell V hV)) ?_
        refine OE.move rfl rfl rfl ?_
        refine OE.move rfl rfl rfl ?_
        refine OE.move rfl rfl rfl ?_
        refine OE.bin rfl rfl rfl rfl (fun V => int_mul t5 V _ _) ?_
        refine OE.move rfl rfl rfl ?_
        refine OE.bin rfl rfl rfl rfl (fun V => int_mul t5 V _ _) ?_
        refine OE.bin rfl rfl rfl rfl (fun V => int_add t6 V _ _) ?_
        refine OE.slice rfl rfl rfl rfl rfl (fun V => secV_at gI 4 u hl V) ?_
        refine OE.conv rfl rfl rfl hcv ?_
        refine OE.index rfl rfl rfl rfl hix ?_
        refine OE.store (fun V => V = wd ∨ V = wd.setCell ⟨gi, u, none⟩ (.string (secS D.img u))) rfl (.inr rfl) (fun V h => h) rfl rfl (st9 hci hfz) ?_
        refine fun a ha W5 hW => ?_
        rw [hW]
        revert a ha
        refine pn_block ?_
        refine EW.on ?_
        refine EW.region ?_
        first | refine WL.move rfl rfl rfl ?_
        first | refine WL.bin rfl rfl rfl rfl (int_add ‹_› _ _ _) ?_
        first | refine WL.assign rfl rfl rfl ?_
        refine WL.done ?_
        exact EW.again (u + 1) [0, 5, 9] rfl ⟨hl, hks, bus⟩ (ms4 u hl)
      · have z1 : ¬ (u : Int) < 4 := fun hh => hl (Int.ofNat_lt.1 hh)
        obtain rfl : u = 4 := Nat.le_antisymm hu4 (Nat.le_of_not_lt hl)
        rw [imsT_four] at hk
        have c2 := (hk.bk.bl.cell 2).trans (show _ = some vl from rfl)
        have f2 := hk.bk.bl.frozen 2
        have hN := hk.noList
        obtain ⟨w6, hw6⟩ : ∃ w6, wu.setCell ⟨pv, 2, none⟩ (.slice none 0 0) = w6 := ⟨_, rfl⟩
        rw [hw6] at hN
        have c0 := (hN.bk.bl.cell 0).trans (show _ = some (.pointer (some ⟨L.p, 0, none⟩)) from rfl)
        have hrd := read_no hN.mine.dev 0 (by unfold refE; rw [hdn, if_pos rfl]; decide)
        rw [show refE D 0 = 80 by unfold refE; rw [hdn]; rfl] at hrd
        have hup := up_any hN.mine.dev
        refine EW.seq ?_
        refine EW.seq ?_
        refine EW.region ?_
        first | refine WL.move rfl rfl rfl ?_
        first | refine WL.bin rfl rfl rfl rfl (int_lt_t ‹_› _ _ _) ?_ | refine WL.bin rfl rfl rfl rfl (int_lt_f ‹_› _ _ _) ?_
        refine WL.done ?_
        refine EW.on ?_
        refine EW.cond_f rfl ?_
        refine EW.exit ?_
        repeat refine px_then ?_
        refine px_block ?_
        refine EW.on ?_
        refine EW.seq ?_
        refine EW.region ?_
        first | refine WL.move rfl rfl rfl ?_
        first | refine WL.nilc rfl rfl rfl ?_
        first | refine WL.field rfl rfl rfl (fld32_2 _ _) ?_
        refine WL.store rfl rfl rfl (st30 c2 f2) ?_
        refine WL.done ?_
        rw [hw6]
        refine EW.on ?_
        refine EW.seq ?_
        refine EW.region ?_
        first | refine WL.move rfl rfl rfl ?_
        first | refine WL.nilc rfl rfl rfl ?_
        first | refine WL.field rfl rfl rfl (fld32_0 _ _) ?_
        refine WL.load rfl rfl rfl (ld28 c0) ?_
        refine WL.call [.pointer (some ⟨L.p, 0, none⟩), .int .i64 0] enter42 rfl rfl rfl hrd ?_
        rintro x w7 ⟨rfl, hz⟩
        rw [hz]; clear hz w7
        refine ⟨_, rfl, ?_⟩
        first | refine WL.move rfl rfl rfl ?_
        first | refine WL.extract rfl rfl rfl (ext_2 _ _ _).1 ?_
        first | refine WL.extract rfl rfl rfl (ext_2 _ _ _).2 ?_
        first | refine WL.assign rfl rfl rfl ?_
        first | refine WL.assign rfl rfl rfl ?_
        refine WL.done ?_
        refine EW.on ?_
        refine EW.seq ?_
        refine EW.region ?_
        first | refine WL.move rfl rfl rfl ?_
        first | refine WL.nilc rfl rfl rfl ?_
        first | refine WL.field rfl rfl rfl (fld32_0 _ _) ?_
        refine WL.load rfl rfl rfl (ld28 c0) ?_
        refine WL.call [.pointer (some ⟨L.p, 0, none⟩)] enter25 rfl rfl rfl hup ?_
        rintro x w7 ⟨rfl, ht7, hd7⟩
        refine ⟨_, rfl, ?_⟩
        first | refine WL.assign rfl rfl rfl ?_
        refine WL.done ?_
        have h7 := hN.turn ht7 hd7
        have c7 := (h7.bk.bl.cell 0).trans (show _ = some (.pointer (some ⟨L.p, 0, none⟩)) from rfl)
        have hdw7 := down_any h7.mine.dev
        have hp7 : (upD D).pen = [] := hpen
        have hrd7 := reads_any (D := upD D) h7.mine.dev (by rw [hp7]; exact h7.bk) rfl hn (fun i hi => ims4_at _ i hi)
        refine EW.on ?_
        refine EW.seq ?_
        refine EW.region ?_
        first | refine WL.move rfl rfl rfl ?_
        refine WL.bin rfl rfl rfl rfl (int_eq_t rfl _ _ _) ?_
        first | refine WL.move rfl rfl rfl ?_
        first | refine WL.move rfl rfl rfl ?_ | refine WL.skip _ rfl rfl rfl ?_
        refine WL.bin rfl rfl rfl rfl (int_eq_t rfl _ _ _) ?_
        first | refine WL.pick rfl rfl rfl rfl ?_
        first | refine WL.move rfl rfl rfl ?_
        first | refine WL.move rfl rfl rfl ?_ | refine WL.skip _ rfl rfl rfl ?_
        first | refine WL.nilc rfl rfl rfl ?_ | refine WL.skip _ rfl rfl rfl ?_
        first | refine WL.field rfl rfl rfl (fld32_0 _ _) ?_ | refine WL.skip _ rfl rfl rfl ?_
        refine WL.load rfl rfl rfl (ld28 c7) ?_
        refine WL.call [.pointer (some ⟨L.p, 0, none⟩)] enter22 rfl rfl rfl hdw7 ?_
        rintro x w8 ⟨rfl, hz⟩
        rw [hz]; clear hz w8
        refine ⟨_, rfl, ?_⟩
        first | refine WL.un rfl rfl rfl (not_t _ _) ?_ | refine WL.skip _ rfl rfl rfl ?_
        first | refine WL.pick rfl rfl rfl rfl ?_
        first | refine WL.move rfl rfl rfl ?_
        first | refine WL.move rfl rfl rfl ?_ | refine WL.skip _ rfl rfl rfl ?_
        refine WL.call [.pointer (some ⟨pv, 0, none⟩)] enter29 rfl rfl rfl hrd7 ?_
        rintro x w8 ⟨rfl, be8⟩
        refine ⟨_, rfl, ?_⟩
        first | refine WL.pick rfl rfl rfl rfl ?_
        first | refine WL.assign rfl rfl rfl ?_
        refine WL.done ?_
        refine EW.on ?_
        refine EW.ret ?_
        exact EW.returns Try.results46 rfl ⟨rfl, by rw [hp7]; exact h7.below be8⟩
end Go.Proofs.Ythfcabhelldokaa
