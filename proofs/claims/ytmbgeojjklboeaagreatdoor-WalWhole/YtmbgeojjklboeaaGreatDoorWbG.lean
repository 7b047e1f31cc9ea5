import Derived.Test.YtmbgeojjklboeaaGreatDoorRdG
import Derived.Test.YtmbgeojjklboeaaGreatDoorArmG
set_option linter.unusedVariables false
set_option linter.unusedSimpArgs false
namespace Go.Proofs.YtmbgeojjklboeaaGreatDoor
open Go.RowKit

/-- Pending writes of nothing. -/
def penZ : Nat → List Value
  | 0 => []
  | m + 1 => Value.int .i64 0 :: .slice none 0 0 :: penZ m
theorem penZ_length : ∀ m, (penZ m).length = m * 2
  | 0 => rfl
  | m + 1 => by simp only [penZ, List.length_cons, penZ_length m]; omega
theorem penZ_at : ∀ m i, i < m * 2 → (penZ m)[i]? = some (if i % 2 = 0 then Value.int .i64 0 else .slice none 0 0)
  | 0, i, h => by omega
  | m + 1, 0, h => rfl
  | m + 1, 1, h => rfl
  | m + 1, i + 2, h => by
    have := penZ_at m i (by omega)
    simp only [penZ, List.getElem?_cons_succ, this]
    rw [show (i + 2) % 2 = i % 2 by omega]
theorem made_two (m : Nat) : madeCells (#[Value.int .i64 0, .slice none 0 0] : Array Value) (m * 2) = (penZ m).toArray := by
  apply Array.ext
  · simp [size_madeCells, penZ_length]
  · intro i h1 h2
    have hi : i < m * 2 := by simpa [penZ_length] using h2
    have h3 := penZ_at m i hi
    rw [List.getElem?_eq_getElem (by rw [penZ_length]; exact hi)] at h3
    have h4 := Option.some.inj h3
    have h5 : (penZ m).toArray[i] = (penZ m)[i]'(by rw [penZ_length]; exact hi) := by simp
    rw [h5, h4]
    simp [madeCells]
    rcases Nat.mod_two_eq_zero_or_one i with h | h <;> simp [h]
theorem info78z : (Tryz.prog.info? 121).map (fun i => (i.zero, i.size, i.bytes)) = some (some (.agg #[.int .i64 0, .slice none 0 0]), 2, 32) := by kernel_rfl
theorem run_mk30 (w : World) (l : Nat) (h : l ≤ 1000000000000) : (Instr.makeSlice 89 (.int .i64 (l : Int)) (.int .i64 (l : Int))).run Tryz.prog w = .ok (.slice (some ⟨w.heap.size, 0, none⟩) l l) (w.alloc (.cells (penZ l).toArray 121)) := by
  obtain ⟨i0, hi, hz0, hz1, hz2⟩ := info_parts info78z
  have hrun := run_make (P := Tryz.prog) w 89 121 i0 (.agg #[.int .i64 0, .slice none 0 0]) Tryz.underlying89 hi hz0 .i64 .i64 l l (by omega) (by omega) (by rw [hz2]; omega) (by omega)
  rw [hz1, Int.toNat_natCast] at hrun
  rw [hrun, ← made_two]
  rfl
theorem size_setCells (b : Nat) : ∀ (vs : List Value) (o : Nat) (w : World), (w.setCells b o vs).heap.size = w.heap.size
  | [], o, w => rfl
  | v :: r, o, w => by rw [World.setCells, size_setCells b r]; simp [World.setCell]
theorem size_setRow (w : World) (b : Nat) (cs : Array Value) : (w.setRow b cs).heap.size = w.heap.size := by simp [World.setRow]
/-- A list of pending writes of the caller's own. -/
structure Pen (w : World) (g : Nat) (gs : List Nat) (pen : List (Nat × List UInt8)) : Prop where
  row : Blk w g (penC gs pen) 121
  len : gs.length = pen.length
  bys : ∀ (k gb : Nat) (x : Nat × List UInt8), gs[k]? = some gb → pen[k]? = some x → Blk w gb (x.2.map byt) 5
theorem penC_take (gs : List Nat) (pen : List (Nat × List UInt8)) (t : Nat) (x : Nat × List UInt8) (hx : pen[t]? = some x) (hl : gs.length = t) (gb m : Nat) :
    let cs := penC gs (pen.take t) ++ penZ (m + 1)
    cs.take (t * 2) ++ pwC x.1 (bV gb) ++ cs.drop (t * 2 + (pwC x.1 (bV gb)).length) = penC (gs ++ [gb]) (pen.take (t + 1)) ++ penZ m := by
  have ht : t < pen.length := (List.getElem?_eq_some_iff.1 hx).1
  have hlt : (pen.take t).length = t := by simp; omega
  have hpl : (penC gs (pen.take t)).length = t * 2 := by rw [penC_length _ _ (by omega), hlt]
  simp only
  rw [List.take_add_one, hx, show (some x).toList = [x] from rfl, penC_snoc gs (pen.take t) gb x (by omega), List.take_append_of_le_length (by omega), List.take_of_length_le (by omega), List.drop_append, List.drop_eq_nil_of_le (by simp [pwC]; omega), hpl]
  rw [show t * 2 + (pwC x.1 (bV gb)).length - t * 2 = 2 by simp [pwC]]
  rfl
set_option maxRecDepth 100000 in
set_option maxHeartbeats 2000000 in
theorem cache_any {w : World} {L : Lay} {D : Dv} (h : Dev w L D) : Calls Tryz.prog 40 #[.pointer (some ⟨L.p, 0, none⟩)] w fun e w' => e = .returned (.slice (some ⟨w.heap.size, 0, none⟩) D.pen.length D.pen.length) ∧ Below w.heap.size w w' ∧ w'.heap.size = w.heap.size + 1 + 2 * D.pen.length ∧ ∃ gs, Pen w' w.heap.size gs D.pen := by
  have hlen := pen_len h.pen
  have few := h.ok.few
  have hmk := run_mk30 w D.pen.length (by omega)
  obtain ⟨m, hm⟩ : ∃ m, D.pen.length = m := ⟨_, rfl⟩
  obtain ⟨g, hg⟩ : ∃ g, w.heap.size = g := ⟨_, rfl⟩
  have be0 : Below w.heap.size w (w.alloc (.cells (penZ D.pen.length).toArray 121)) := below_new w _
  have b0 : Blk (w.alloc (.cells (penZ D.pen.length).toArray 121)) g (penZ D.pen.length) 121 := Blk.newAt hg
  rw [hm] at hlen few hmk be0 b0 ⊢
  rw [hg] at hmk ⊢
  have HM := hide hm
  clear hm
  obtain ⟨w0, hw0⟩ : ∃ w0, w.alloc (.cells (penZ m).toArray 121) = w0 := ⟨_, rfl⟩
  rw [hw0] at hmk be0 b0
  have SZ0 : w0.heap.size = g + 1 + 2 * 0 := by rw [← hw0]; simp [hg]
  have h0 := h.below be0
  have hc1 := h.c1
  have hc10 := h0.c1
  have H0 := hide h
  have BE0 := hide be0
  have B0 := hide b0
  clear h h0 be0 b0 hw0
  go_enter Tryz.func40, Tryz.ntmps40
  go_wp2
  go_loopw [17] (fun i wr => ∃ (t : Nat) (gs : List Nat), t ≤ m ∧ i = .int .i64 t ∧ Hid (wr.heap.size = g + 1 + 2 * t ∧ Below g w wr ∧ Blk wr g (penC gs (D.pen.take t) ++ penZ (m - t)) 121 ∧ gs.length = t ∧ ∀ (k gb : Nat) (x : Nat × List UInt8), gs[k]? = some gb → D.pen[k]? = some x → g < gb ∧ Blk wr gb (x.2.map byt) 5)) (fun i _ => m - (intOf i).toNat)
  case atStart => exact ⟨0, [], by omega, rfl, hide ⟨SZ0, by rw [← hg]; exact BE0.out, by simpa [penC] using B0.out, rfl, fun k gb x h => by simp at h⟩⟩
  case round =>
    obtain ⟨t, gs, ht, rfl, hs⟩ := hrel
    by_cases hlt : t < m
    · have hlz : (t : Int) < (m : Int) := by omega
      obtain ⟨x, hx⟩ : ∃ x, D.pen[t]? = some x := ⟨D.pen[t]'(by have := HM.out; omega), List.getElem?_eq_getElem _⟩
      obtain ⟨gb, hgb⟩ : ∃ g, L.gs[t]? = some g := ⟨L.gs[t]'(by rw [H0.out.gsl]; have := HM.out; omega), List.getElem?_eq_getElem _⟩
      obtain ⟨gp, hgo, hix, hrg⟩ := pen_item H0.out.pen t gb x hgb hx
      have hxl := (H0.out.ok.sec x (List.mem_of_getElem? hx)).2
      have hby := H0.out.bys t gb x hgb hx
      have BEr : Below w.heap.size w wr := by rw [hg]; exact hs.out.2.1
      have RG : Hid (wr.rangeAt gp (t * 2) (pwC x.1 (bV gb))) := hide (fun j v hj => (Fx.of_below (S := fun _ => False) BEr).cell (hrg j v hj) (fun e => e))
      obtain ⟨gw, hgw⟩ : ∃ gw, wr.heap.size = gw := ⟨_, rfl⟩
      have hggw : g < gw := by have := hs.out.2.2.1.lt; omega
      go_upto_region 5 with (first
        | (refine wpList_load_mid rfl 121 (.tmp 20) rfl gp (t * 2) rfl (pwC x.1 (bV gb)) _ RG.out Tryz.underlying121 rfl (info78 _ _) ?_)
        | (refine wpList_newAt rfl 121 rfl _ zero78 gw hgw ?_)
        | (refine wpList_store_row rfl 121 (.tmp 5) (.tmp 21) rfl gw (pwC x.1 (bV gb)).toArray rfl rfl 121 _ (Blk.newAt hgw) (info78A _ _) rfl (pwC_one _ _) ?_))
      have be1 : Below wr.heap.size wr ((wr.alloc (.cells [Value.int .i64 0, .slice none 0 0].toArray 121)).setRow gw (pwC x.1 (bV gb)).toArray) := below_setRow (below_new wr _) _ _ (by omega)
      have sz1 : ((wr.alloc (.cells [Value.int .i64 0, .slice none 0 0].toArray 121)).setRow gw (pwC x.1 (bV gb)).toArray).heap.size = wr.heap.size + 1 := by rw [size_setRow]; simp
      have bw : Blk ((wr.alloc (.cells [Value.int .i64 0, .slice none 0 0].toArray 121)).setRow gw (pwC x.1 (bV gb)).toArray) gw (pwC x.1 (bV gb)) 121 := (Blk.newAt hgw).setRow _
      generalize (wr.alloc (.cells [Value.int .i64 0, .slice none 0 0].toArray 121)).setRow gw (pwC x.1 (bV gb)).toArray = w1 at be1 bw sz1 ⊢
      have bd : Below w1.heap.size w1 { w1 with drawn := w1.drawn + 1 } := below_drawn w1
      replace be1 := be1.trans (bd.mono be1.size)
      replace bw := bw.on bd
      clear bd
      obtain ⟨k, hk⟩ : ∃ k, m - t = k + 1 := ⟨m - t - 1, by omega⟩
      obtain ⟨hs0, hs1, hs2, hs3, hs4⟩ := hs.out
      rw [hk] at hs2
      have bg := hs2.on be1
      have bx : Blk { w1 with drawn := w1.drawn + 1 } gb (x.2.map byt) 5 := (hby.on BEr).on be1
      have hys : ∀ (k gb : Nat) (x : Nat × List UInt8), gs[k]? = some gb → D.pen[k]? = some x → g < gb ∧ Blk { w1 with drawn := w1.drawn + 1 } gb (x.2.map byt) 5 := fun k gb x h1 h2 => ⟨(hs4 k gb x h1 h2).1, (hs4 k gb x h1 h2).2.on be1⟩
      refine reg_ord [(0, false), (1, false), (2, false), (3, false), (4, false), (5, false), (6, true), (7, true), (8, false), (9, true)] (fun W => Blk W gw (pwC x.1 (bV gb)) 121) (by kernel_rfl) rfl (by kernel_rfl) (bw) ?_
      simp only [ordOps, List.getD_cons_zero, List.getD_cons_succ]
      obtain ⟨wd, hwd⟩ : ∃ wd, { w1 with drawn := w1.drawn + 1 } = wd := ⟨_, rfl⟩
      have szd : wd.heap.size = wr.heap.size + 1 := by rw [← hwd]; exact sz1
      rw [hwd] at be1 bw bg bx hys ⊢
      have hcp := copied_any (.slice (some ⟨gb, 0, none⟩) 512 512) x.2 (by omega) wd (.inr ⟨⟨gb, 0, none⟩, 512, by rw [hxl], by omega, fun j u hu => by rw [add_plain, bx.cell, List.getElem?_map, hu]; rfl⟩)
      rw [hxl] at hcp
      obtain ⟨gc, hgc⟩ : ∃ gc, wd.heap.size = gc := ⟨_, rfl⟩
      have hggc : g < gc := by have := be1.size; omega
      have be2 : Below wd.heap.size wd (wd.alloc (.cells (x.2.map byt).toArray 5)) := below_new wd _
      have bc : Blk (wd.alloc (.cells (x.2.map byt).toArray 5)) gc (x.2.map byt) 5 := Blk.newAt hgc
      have sz2 : (wd.alloc (.cells (x.2.map byt).toArray 5)).heap.size = g + 1 + 2 * (t + 1) := by simp; omega
      obtain ⟨w2, hw2⟩ : ∃ w2, wd.alloc (.cells (x.2.map byt).toArray 5) = w2 := ⟨_, rfl⟩
      rw [hw2] at be2 bc sz2
      rw [hw2, hgc] at hcp
      have bw2 := bw.on be2
      have bg2 := bg.on be2
      have hpl : (penC gs (D.pen.take t) ++ penZ (k + 1)).length = t * 2 + (k + 1) * 2 := by
        rw [List.length_append, penC_length _ _ (by simp; have := HM.out; omega), penZ_length]
        simp; have := HM.out; omega
      have bg3 : Blk (w2.setCells g (t * 2) (pwC x.1 (bV gc))) g (penC (gs ++ [gc]) (D.pen.take (t + 1)) ++ penZ k) 121 := by
        have := Blk.setCells (pwC x.1 (bV gc)) (t * 2) w2 _ bg2 (by rw [hpl]; simp [pwC]; omega)
        rw [penC_take gs D.pen t x hx hs3 gc k] at this
        exact this
      have F3 : Fx (One g) w2 (w2.setCells g (t * 2) (pwC x.1 (bV gc))) := Fx.setCells (S := One g) g rfl _ _ _
      have th2 : w2.there g (t * 2) (pwC x.1 (bV gc)).length := fun j hj => by
        refine ⟨?_, bg2.frozen _⟩
        have hj2 : j < 2 := by simpa [pwC] using hj
        rw [bg2.cell, List.getElem?_eq_getElem (by rw [hpl]; omega)]
        rfl
      have hix30 := fun W => idx30 g m m t hlt W
      refine wpOrd_val (.slice (some ⟨g, 0, none⟩) m m) (uvV (by rfl) (Op.move (Operand.tmp 3)) rfl (.slice (some ⟨g, 0, none⟩) m m) (fun o' ho W hW => by go_simp)) (by simp only [Act.put, List.setIfInBounds_toArray, List.set_cons_zero, List.set_cons_succ]; rfl) ?_; refine wpOrd_val (.int .i64 (t : Int)) (uvV (by rfl) (Op.move (Operand.tmp 4)) rfl (.int .i64 (t : Int)) (fun o' ho W hW => by go_simp)) (by simp only [Act.put, List.setIfInBounds_toArray, List.set_cons_zero, List.set_cons_succ]; rfl) ?_; refine wpOrd_val (.pointer (some ⟨gw, 0, none⟩)) (uvV (by rfl) (Op.fieldAddr 121 (Operand.tmp 5) 0) rfl (.pointer (some ⟨gw, 0, none⟩)) (fun o' ho W hW => by go_simp)) (by simp only [Act.put, List.setIfInBounds_toArray, List.set_cons_zero, List.set_cons_succ]; rfl) ?_; refine wpOrd_val (.int .i64 (x.1 : Int)) (uvV (by rfl) (Op.load 3 (Operand.tmp 24)) rfl (.int .i64 (x.1 : Int)) (fun o' ho W hW => by have hc : W.cell? ⟨gw, 0, none⟩ = some (.int .i64 (x.1 : Int)) := (Blk.cell hW 0).trans rfl; go_simp)) (by simp only [Act.put, List.setIfInBounds_toArray, List.set_cons_zero, List.set_cons_succ]; rfl) ?_; refine wpOrd_val (.pointer (some ⟨gw, 1, none⟩)) (uvV (by rfl) (Op.fieldAddr 121 (Operand.tmp 5) 1) rfl (.pointer (some ⟨gw, 1, none⟩)) (fun o' ho W hW => by go_simp)) (by simp only [Act.put, List.setIfInBounds_toArray, List.set_cons_zero, List.set_cons_succ]; rfl) ?_; refine wpOrd_val (.slice (some ⟨gb, 0, none⟩) 512 512) (uvV (by rfl) (Op.load 49 (Operand.tmp 26)) rfl (.slice (some ⟨gb, 0, none⟩) 512 512) (fun o' ho W hW => by have hc : W.cell? ⟨gw, 1, none⟩ = some (.slice (some ⟨gb, 0, none⟩) 512 512) := (Blk.cell hW 1).trans rfl; go_simp)) (by simp only [Act.put, List.setIfInBounds_toArray, List.set_cons_zero, List.set_cons_succ]; rfl) ?_; refine wpOrd_to (by rfl) (bV gc) (w2) (fun W => Blk W gw (pwC x.1 (bV gb)) 121) (bw2) (fun _ h => h) (OpTo.call 51 [Operand.tmp 27] #[49] rfl [.slice (some ⟨gb, 0, none⟩) 512 512] (bV gc) rfl enter51 hcp) (by simp only [Act.put, List.setIfInBounds_toArray, List.set_cons_zero, List.set_cons_succ]; rfl) ?_; refine wpOrd_to (by rfl) (.agg (pwC x.1 (bV gc)).toArray) (w2) (fun W => Blk W gw (pwC x.1 (bV gb)) 121) (bw2) (fun _ h => h) (OpTo.build2 121 (.tmp 25) (.tmp 28) rfl (.int .i64 (x.1 : Int)) (bV gc) _ rfl rfl (bd78 x.1 gc w2)) (by simp only [Act.put, List.setIfInBounds_toArray, List.set_cons_zero, List.set_cons_succ]; rfl) ?_; refine wpOrd_val (.pointer (some ⟨g, t * 2, none⟩)) (uvV (by rfl) (Op.indexAddr 89 (Operand.tmp 22) (Operand.tmp 23)) rfl (.pointer (some ⟨g, t * 2, none⟩)) (fun o' ho W hW => by go_simp)) (by simp only [Act.put, List.setIfInBounds_toArray, List.set_cons_zero, List.set_cons_succ]; rfl) ?_; refine wpOrd_to (by rfl) (undef) (w2.setCells g (t * 2) (pwC x.1 (bV gc))) (fun W => Blk W gw (pwC x.1 (bV gb)) 121) (bw2.fx F3 (by show ¬ gw = g; omega)) (fun _ h => h) (OpTo.storeMid 121 (.tmp 30) (.tmp 29) rfl g (t * 2) (pwC x.1 (bV gc)) rfl rfl th2 (info78 _ _) (pwC_one _ _)) (by simp only [Act.put, List.setIfInBounds_toArray, List.set_cons_zero, List.set_cons_succ]; rfl) ?_
      intro W hW
      rw [hW]
      clear hW W
      have BE3 : Below g w (w2.setCells g (t * 2) (pwC x.1 (bV gc))) := ((hs1.trans (be1.mono (by omega))).trans (be2.mono (by omega))).trans (F3.below (fun k hk e => by have : k = g := e; omega) (by have := be1.size; have := be2.size; omega))
      have hys3 : ∀ (k' gb' : Nat) (x' : Nat × List UInt8), (gs ++ [gc])[k']? = some gb' → D.pen[k']? = some x' → g < gb' ∧ Blk (w2.setCells g (t * 2) (pwC x.1 (bV gc))) gb' (x'.2.map byt) 5 := fun k' gb' x' h1 h2 => by
        rcases Nat.lt_or_ge k' t with hk' | hk'
        · rw [List.getElem?_append_left (by omega)] at h1
          have := hys k' gb' x' h1 h2
          exact ⟨this.1, (this.2.on be2).fx F3 (by show ¬ gb' = g; omega)⟩
        · rw [List.getElem?_append_right (by omega), hs3] at h1
          have hk2 : k' = t := by
            rcases Nat.lt_or_ge (k' - t) 1 with h3 | h3
            · omega
            · rw [List.getElem?_eq_none (by simpa using h3)] at h1; cases h1
          subst hk2
          rw [Nat.sub_self, List.getElem?_cons_zero] at h1
          obtain rfl : gc = gb' := Option.some.inj h1
          obtain rfl : x = x' := Option.some.inj (hx.symm.trans h2)
          exact ⟨hggc, bc.fx F3 (by show ¬ gc = g; omega)⟩
      have FIN : Hid ((w2.setCells g (t * 2) (pwC x.1 (bV gc))).heap.size = g + 1 + 2 * (t + 1) ∧ Below g w (w2.setCells g (t * 2) (pwC x.1 (bV gc))) ∧ Blk (w2.setCells g (t * 2) (pwC x.1 (bV gc))) g (penC (gs ++ [gc]) (D.pen.take (t + 1)) ++ penZ (m - (t + 1))) 121 ∧ (gs ++ [gc]).length = t + 1 ∧ ∀ (k' gb' : Nat) (x' : Nat × List UInt8), (gs ++ [gc])[k']? = some gb' → D.pen[k']? = some x' → g < gb' ∧ Blk (w2.setCells g (t * 2) (pwC x.1 (bV gc))) gb' (x'.2.map byt) 5) :=
        hide ⟨by rw [size_setCells]; exact sz2, BE3, by rw [show m - (t + 1) = k by omega]; exact bg3, by simp [hs3], hys3⟩
      clear sz2 szd sz1 hs0 BE3 hys3 th2 F3 bg3 hpl bg2 bw2 hcp bc be2 hys bx bg hs2 hs4 bw be1 RG hs hrg hby hs1 hk
      go_wp2
      go_roundw
      case rel => exact ⟨t + 1, gs ++ [gc], by omega, by go_num, FIN⟩
      case measure => simp [intOf]; omega
    · obtain rfl : t = m := by omega
      have hlz : ¬ (t : Int) < (t : Int) := by omega
      have HS := hs
      clear hs
      go_wp2
      go_ret
      obtain ⟨h0, h1, h2, h3, h4⟩ := HS.out
      refine ⟨rfl, h1, h0, gs, ?_, by rw [h3, HM.out], fun k gb x e1 e2 => (h4 k gb x e1 e2).2⟩
      rw [Nat.sub_self, penZ, List.append_nil, List.take_of_length_le (by rw [HM.out]; exact Nat.le_refl _)] at h2
      exact h2
end Go.Proofs.YtmbgeojjklboeaaGreatDoor

set_option linter.unusedVariables false
set_option linter.unusedSimpArgs false
namespace Go.Proofs.YtmbgeojjklboeaaGreatDoor
open Go.RowKit

def dkC (p n : Nat) : List Value := [.pointer (some ⟨p, 0, none⟩), .int .i64 (n : Int)]
/-- A disk: the device's place, and how many pages. -/
def dkV (p n : Nat) : Value := .agg (dkC p n).toArray
theorem box55 (p n : Nat) (w : World) : ∃ w1 q, (Instr.box 76 (dkV p n)).run Tryz.prog w = .ok (.pointer (some ⟨q, 0, none⟩)) w1 ∧ Blk w1 q (dkC p n) 76 ∧ Below w.heap.size w w1 ∧ q = w.heap.size :=
  ⟨_, _, run_boxR 76 _ w _ rfl, Blk.new _ _ _, below_new _ _, rfl⟩
theorem fld55_0 (q : Nat) (W : World) : (Instr.fieldAt 76 (.pointer (some ⟨q, 0, none⟩)) 0).run Tryz.prog W = .ok (.pointer (some ⟨q, 0, none⟩)) W := by go_simp
theorem fld55_1 (q : Nat) (W : World) : (Instr.fieldAt 76 (.pointer (some ⟨q, 0, none⟩)) 1).run Tryz.prog W = .ok (.pointer (some ⟨q, 1, none⟩)) W := by go_simp
theorem ldP41 {W : World} {q p n : Nat} (hb : Blk W q (dkC p n) 76) : (Instr.loadAt 36 (.pointer (some ⟨q, 0, none⟩))).run Tryz.prog W = .ok (.pointer (some ⟨p, 0, none⟩)) W := by
  have hc : W.cell? ⟨q, 0, none⟩ = some (.pointer (some ⟨p, 0, none⟩)) := hb.cell 0
  have hf := hb.frozen 0
  go_simp
theorem ldI3 {W : World} {q p n : Nat} (hb : Blk W q (dkC p n) 76) : (Instr.loadAt 3 (.pointer (some ⟨q, 1, none⟩))).run Tryz.prog W = .ok (.int .i64 (n : Int)) W := by
  have hc : W.cell? ⟨q, 1, none⟩ = some (.int .i64 (n : Int)) := hb.cell 1
  have hf := hb.frozen 1
  go_simp
theorem info55 (p n : Nat) : (Tryz.prog.info? 76).map (·.size) = some (dkC p n).length := by kernel_rfl
theorem ld55 {W : World} {q p n : Nat} (hb : Blk W q (dkC p n) 76) : (Instr.loadAt 76 (.pointer (some ⟨q, 0, none⟩))).run Tryz.prog W = .ok (dkV p n) W := run_loadR hb Tryz.underlying76 rfl (info55 p n)
theorem add_plain0 (q i : Nat) : (⟨q, 0, none⟩ : Addr).add i = ⟨q, i, none⟩ := by
  simp [Addr.add]
  intro h
  exact h.symm
theorem Has.new {w : World} {q : Nat} {bs : List UInt8} {t : TypeId} (hb : Blk w q (bs.map byt) t) (c : Nat) (hc : bs.length ≤ c) : Has w (.slice (some ⟨q, 0, none⟩) bs.length c) bs :=
  .inr ⟨_, c, rfl, hc, fun i u hu => by rw [add_plain0, hb.cell, List.getElem?_map, hu]; rfl⟩
set_option maxRecDepth 100000 in
set_option maxHeartbeats 1000000 in
theorem must_ok (w : World) : Calls Tryz.prog 59 #[.int .i64 0] w fun e w' => e = .returned (.tuple #[]) ∧ w' = w := by
  refine calls_of_args [.int .i64 0] Tryz.func59 rfl 6 Tryz.ntmps59 (by show 1 ≤ 6; decide) ?_; refine EW.seq ?_; refine EW.region ?_; refine WL.move rfl rfl rfl ?_
  first | refine WL.bin rfl rfl rfl rfl (int_ne_f rfl _ _ _) ?_ | refine WL.bin rfl rfl rfl rfl (int_ne_t ‹_› _ _ _) ?_ | refine WL.bin rfl rfl rfl rfl (int_ne_f ‹_› _ _ _) ?_ | refine WL.bin rfl rfl rfl rfl (int_ne_t (by decide) _ _ _) ?_ | refine WL.bin rfl rfl rfl rfl (int_ne_d _ _ _ _ _) ?_
  refine WL.done ?_; refine EW.on ?_; refine EW.cond_f rfl ?_; refine EW.skip ?_
  exact EW.falls Tryz.results59 ⟨rfl, rfl⟩
set_option maxRecDepth 100000 in
set_option maxHeartbeats 1000000 in
theorem dread_ok {w : World} {L : Lay} {D : Dv} (n : Nat) (h : Dev w L D) (hd : D.down = false) (i : Nat) (hi : i < D.n) : Calls Tryz.prog 33 #[dkV L.p n, .int .i64 (i : Int)] w fun e w' => ∃ u, e = .returned u ∧ Has w' u (readB D i) ∧ Below w.heap.size w w' ∧ (∀ k, u.ownBlock = some k → w.heap.size ≤ k) := by
  refine calls_of_args [dkV L.p n, .int .i64 (i : Int)] Tryz.func33 rfl 17 Tryz.ntmps33 (by show 2 ≤ 17; decide) ?_; refine EW.seq ?_; refine EW.region ?_
  obtain ⟨w1, q, r1, b1, e1, hq⟩ := box55 L.p n w
  have h1 := h.below e1
  refine WL.box rfl rfl rfl r1 ?_; refine WL.assign rfl rfl rfl ?_; refine WL.done ?_; refine EW.on ?_; refine EW.seq ?_; refine EW.region ?_; refine WL.field rfl rfl rfl (fld55_0 q _) ?_; refine WL.load rfl rfl rfl (ldP41 b1) ?_; refine WL.move rfl rfl rfl ?_; refine WL.call [.pointer (some ⟨L.p, 0, none⟩), .int .i64 (i : Int)] enter58 rfl rfl rfl (read_ok h1 hd i hi) ?_
  rintro _ w2 ⟨rfl, hz⟩
  have e2 : Below w1.heap.size w1 w2 := by rw [hz]; exact below_new _ _
  have hh : Has w2 (.slice (some ⟨w1.heap.size, 0, none⟩) 512 512) (readB D i) := by rw [hz]; have := Has.new (bs := readB D i) (Blk.new w1 _ 5) 512 (by rw [readB_length D h.ok i hi]; exact Nat.le_refl _); rw [readB_length D h.ok i hi] at this; exact this
  refine ⟨_, rfl, ?_⟩; refine WL.move rfl rfl rfl ?_; refine WL.extract rfl rfl rfl (ext_2 _ _ _).1 ?_; refine WL.extract rfl rfl rfl (ext_2 _ _ _).2 ?_; refine WL.assign rfl rfl rfl ?_; refine WL.assign rfl rfl rfl ?_; refine WL.done ?_; refine EW.on ?_; refine EW.seq ?_; refine EW.region ?_; refine WL.move rfl rfl rfl ?_; refine WL.call [.int .i64 0] enter59 rfl rfl rfl (must_ok _) ?_
  rintro _ w3 ⟨rfl, hz3⟩
  rw [hz3]
  refine ⟨_, rfl, ?_⟩; refine WL.done ?_; refine EW.on ?_; refine EW.seq ?_; refine EW.region ?_; refine WL.move rfl rfl rfl ?_; refine WL.assign rfl rfl rfl ?_; refine WL.done ?_; refine EW.on ?_; refine EW.ret ?_
  exact EW.returns Tryz.results33 rfl ⟨_, rfl, hh, e1.trans (e2.mono e1.size), fun k hk => by cases hk; exact e1.size⟩
set_option maxRecDepth 100000 in
set_option maxHeartbeats 1000000 in
theorem dwrite_ok {w : World} {L : Lay} {D : Dv} (n : Nat) (h : Dev w L D) (hd : D.down = false) (hl0 : D.left = 0) (i : Nat) (hi : i < D.n) (vb : Value) (b : List UInt8) (hb : b.length = 512) (hv : Has w vb b) (few : D.pen.length < 1000000) (hcal : D.calls < 1000000000000) : Calls Tryz.prog 64 #[dkV L.p n, .int .i64 (i : Int), vb] w fun e w' => e = .returned (.tuple #[]) ∧ ∃ L', Turn w w' L L' ∧ Dev w' L' (changedD (pushD D i b)) := by
  refine calls_of_args [dkV L.p n, .int .i64 (i : Int), vb] Tryz.func64 rfl 12 Tryz.ntmps64 (by show 3 ≤ 12; decide) ?_; refine EW.seq ?_; refine EW.region ?_
  obtain ⟨w1, q, r1, b1, e1, hq⟩ := box55 L.p n w
  have h1 := h.below e1
  refine WL.box rfl rfl rfl r1 ?_; refine WL.done ?_; refine EW.on ?_; refine EW.region ?_; refine WL.field rfl rfl rfl (fld55_0 q _) ?_; refine WL.load rfl rfl rfl (ldP41 b1) ?_; refine WL.move rfl rfl rfl ?_; refine WL.move rfl rfl rfl ?_; refine WL.call [.pointer (some ⟨L.p, 0, none⟩), .int .i64 (i : Int), vb] enter79 rfl rfl rfl (write_ok h1 hd i hi vb b hb (hv.below e1) few hcal (by omega)) ?_
  rintro _ w2 ⟨rfl, L', t2, d2⟩
  rw [show changedE D = 0 by unfold changedE; simp [hl0]]
  refine ⟨_, rfl, ?_⟩; refine WL.call [.int .i64 0] enter59 rfl rfl rfl (must_ok _) ?_
  rintro _ w3 ⟨rfl, hz3⟩
  rw [hz3]
  refine ⟨_, rfl, ?_⟩; refine WL.done ?_
  exact EW.falls Tryz.results64 ⟨rfl, L', ⟨(Fx.of_below e1).trans t2.fx (fun k _ h => h), fun k hk => (t2.own k hk).imp id (fun h => Nat.le_trans e1.size h), t2.p⟩, d2⟩
set_option maxRecDepth 100000 in
set_option maxHeartbeats 1000000 in
theorem dflush_ok {w : World} {L : Lay} {D : Dv} (n : Nat) (h : Dev w L D) (hd : D.down = false) (hl0 : D.left = 0) (hcal : D.calls < 1000000000000) : Calls Tryz.prog 57 #[dkV L.p n] w fun e w' => e = .returned (.tuple #[]) ∧ Turn w w' L (dropL L) ∧ Dev w' (dropL L) (flushD D) := by
  refine calls_of_args [dkV L.p n] Tryz.func57 rfl 6 Tryz.ntmps57 (by show 1 ≤ 6; decide) ?_; refine EW.seq ?_; refine EW.region ?_
  obtain ⟨w1, q, r1, b1, e1, hq⟩ := box55 L.p n w
  have h1 := h.below e1
  refine WL.box rfl rfl rfl r1 ?_; refine WL.done ?_; refine EW.on ?_; refine EW.region ?_; refine WL.field rfl rfl rfl (fld55_0 q _) ?_; refine WL.load rfl rfl rfl (ldP41 b1) ?_; refine WL.call [.pointer (some ⟨L.p, 0, none⟩)] enter76 rfl rfl rfl (flush_ok h1 hd hcal (by omega) (by omega)) ?_
  rintro _ w2 ⟨rfl, t2, d2⟩
  refine ⟨_, rfl, ?_⟩; refine WL.call [.int .i64 0] enter59 rfl rfl rfl (must_ok _) ?_
  rintro _ w3 ⟨rfl, hz3⟩
  rw [hz3]
  refine ⟨_, rfl, ?_⟩; refine WL.done ?_
  exact EW.falls Tryz.results57 ⟨rfl, ⟨(Fx.of_below e1).trans t2.fx (fun k _ h => h), fun k hk => (t2.own k hk).imp id (fun h => Nat.le_trans e1.size h), t2.p⟩, d2⟩
set_option maxRecDepth 100000 in
set_option maxHeartbeats 1000000 in
theorem slot_any (p n i : Nat) (w : World) (hi : i ≤ 1000000) : Calls Tryz.prog 63 #[dkV p n, .int .i64 (i : Int)] w fun e w' => e = .returned (.int .i64 ((1 + 2 * i : Nat) : Int)) ∧ Below w.heap.size w w' := by
  have m6 : IntKind.i64.wrap ((2 : Int) * (i : Int)) = ((2 * i : Nat) : Int) := by rw [IntKind.wrap_i64]; omega
  have a7 : IntKind.i64.wrap ((1 : Int) + ((2 * i : Nat) : Int)) = ((1 + 2 * i : Nat) : Int) := by rw [IntKind.wrap_i64]; omega
  refine calls_of_args [dkV p n, .int .i64 (i : Int)] Tryz.func63 rfl 8 Tryz.ntmps63 (by show 2 ≤ 8; decide) ?_; refine EW.seq ?_; refine EW.region ?_
  obtain ⟨w1, q, r1, b1, e1, hq⟩ := box55 p n w
  refine WL.box rfl rfl rfl r1 ?_; refine WL.assign rfl rfl rfl ?_; refine WL.done ?_; refine EW.on ?_; refine EW.seq ?_; refine EW.region ?_; refine WL.move rfl rfl rfl ?_; refine WL.bin rfl rfl rfl rfl (int_mul m6 _ _ _) ?_; refine WL.bin rfl rfl rfl rfl (int_add a7 _ _ _) ?_; refine WL.assign rfl rfl rfl ?_; refine WL.done ?_; refine EW.on ?_; refine EW.ret ?_
  exact EW.returns Tryz.results63 rfl ⟨rfl, e1⟩
set_option maxRecDepth 100000 in
set_option maxHeartbeats 1000000 in
theorem home_any (p n i : Nat) (w : World) (hi : n + i ≤ 1000000) : Calls Tryz.prog 50 #[dkV p n, .int .i64 (i : Int)] w fun e w' => e = .returned (.int .i64 ((1 + 2 * (n + i) : Nat) : Int)) ∧ Below w.heap.size w w' := by
  have a9 : IntKind.i64.wrap ((n : Int) + (i : Int)) = ((n + i : Nat) : Int) := by rw [IntKind.wrap_i64]; omega
  refine calls_of_args [dkV p n, .int .i64 (i : Int)] Tryz.func50 rfl 11 Tryz.ntmps50 (by show 2 ≤ 11; decide) ?_; refine EW.seq ?_; refine EW.region ?_
  obtain ⟨w1, q, r1, b1, e1, hq⟩ := box55 p n w
  refine WL.box rfl rfl rfl r1 ?_; refine WL.assign rfl rfl rfl ?_; refine WL.done ?_; refine EW.on ?_; refine EW.seq ?_; refine EW.region ?_; refine WL.load rfl rfl rfl (ld55 b1) ?_; refine WL.field rfl rfl rfl (fld55_1 q _) ?_; refine WL.load rfl rfl rfl (ldI3 b1) ?_; refine WL.move rfl rfl rfl ?_; refine WL.bin rfl rfl rfl rfl (int_add a9 _ _ _) ?_; refine WL.call [dkV p n, .int .i64 ((n + i : Nat) : Int)] enter63 rfl rfl rfl (slot_any p n (n + i) w1 (by omega)) ?_
  rintro _ w2 ⟨rfl, e2⟩
  refine ⟨_, rfl, ?_⟩; refine WL.assign rfl rfl rfl ?_; refine WL.done ?_; refine EW.on ?_; refine EW.ret ?_
  exact EW.returns Tryz.results50 rfl ⟨rfl, e1.trans (e2.mono e1.size)⟩
end Go.Proofs.YtmbgeojjklboeaaGreatDoor
