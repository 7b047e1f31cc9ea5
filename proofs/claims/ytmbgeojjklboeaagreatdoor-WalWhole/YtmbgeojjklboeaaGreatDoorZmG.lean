import Derived.Test.YtmbgeojjklboeaaGreatDoorArmG
import Derived.Test.YtmbgeojjklboeaaGreatDoorQhG
import Derived.Test.YtmbgeojjklboeaaGreatDoorYfG
set_option linter.unusedVariables false
set_option linter.unusedSimpArgs false
namespace Go.Proofs.YtmbgeojjklboeaaGreatDoor
open Go.RowKit

set_option maxRecDepth 100000 in
set_option maxHeartbeats 4000000 in
theorem up_any {w : World} {L : Lay} {D : Dv} (h : Dev w L D) : Calls Tryz.prog 54 #[.pointer (some ⟨L.p, 0, none⟩)] w fun e w' => e = .returned (.int .i64 0) ∧ Turn w w' L (unkL L) ∧ Dev w' (unkL L) (upD D) := by
  have hda := hide (disarm_any h.dev)
  have H := hide h
  clear h
  go_enter Tryz.func54, Tryz.ntmps54
  go_wp2_with (first
    | (go_at_call 52; refine hda.out.mono ?_; rintro e w4 ⟨rfl, hp, hq⟩; have F4 := hide hp; have D4 := hide hq; have hfz := hq.frozen 7; have hold := (hq.cell 7).trans (show _ = some (.bool D.down) from rfl); clear hp hq)
    | fail)
  go_ret
  have D5 := D4.out.set 7 (.bool false)
  have F5 : Fx (One L.p) w (w4.setCell ⟨L.p, 7, none⟩ (.bool false)) := F4.out.and (Fx.setCell _ _ _ _ rfl)
  exact ⟨rfl, ⟨F5.mono (fun i _ h => .inl h), fun k h => .inl (unk_own L k h), rfl⟩, H.out.disarmed F5 false D5⟩
theorem Has64.fx0 {S : Nat → Prop} {w w' : World} {v : Value} {bs : List (BitVec 64)} (h : Has64 w v bs) (hf : Fx S w w') (hd : bs ≠ [] → ∀ k, v.ownBlock = some k → ¬ S k) : Has64 w' v bs := by
  rcases h with h | ⟨ad, cap, rfl, h2, h3⟩
  · exact .inl h
  · exact .inr ⟨ad, cap, rfl, h2, fun i u hu => hf.cell (h3 i u hu) (by rw [add_block]; exact hd (fun e => by rw [e] at hu; simp at hu) _ rfl)⟩
set_option maxRecDepth 100000 in
set_option maxHeartbeats 4000000 in
theorem arm_ok {w : World} {L : Lay} {D : Dv} (h : Dev w L D) (hd : D.down = false) (step : Nat) (hs1 : 1 ≤ step) (v : Value) (ks : List (BitVec 64)) (torn off : Int) (hv : Has64 w v ks) (hvn : ks ≠ [] → ∀ k, v.ownBlock = some k → k ≠ L.p) (hkl : ks.length ≤ 17592186044416) :
    Calls Tryz.prog 20 #[.pointer (some ⟨L.p, 0, none⟩), .int .i64 (step : Int), .agg (lossC v torn off).toArray] w fun e w' => e = .returned (.int .i64 0) ∧ ∃ L', Turn w w' L L' ∧ Dev w' L' (armD D step ks torn off) := by
  obtain ⟨g0, hg0⟩ : ∃ g, w.heap.size = g := ⟨_, rfl⟩
  have be0 : Below w.heap.size w (w.alloc (.cells (lossC v torn off).toArray 63)) := below_new w _
  have b0 : Blk (w.alloc (.cells (lossC v torn off).toArray 63)) g0 (lossC v torn off) 63 := Blk.newAt hg0
  have h0 := h.below be0
  have hv0 := hv.fx (Fx.of_below (S := fun _ => False) be0) (fun _ _ h => h)
  have hpg : g0 ≠ L.p := by have := h.dev.lt; omega
  obtain ⟨w0, hw0⟩ : ∃ w0, w.alloc (.cells (lossC v torn off).toArray 63) = w0 := ⟨_, rfl⟩
  rw [hw0] at be0 b0 h0 hv0
  have hc := h0.c7
  rw [hd] at hc
  have hda := hide (disarm_any h0.dev)
  have H0 := hide h0
  have H := hide h
  have BE := hide be0
  have B0 := hide b0
  have HV := hide hv0
  have a1 : ¬ (step : Int) < 0 := by omega
  have a2 : ¬ (step : Int) = 0 := by omega
  clear h0 h be0 b0 hv0 hv
  go_enter Tryz.func20, Tryz.ntmps20
  go_upto_region 9 with (first
    | (refine wpList_boxAt rfl 63 (.tmp 2) rfl (lossC v torn off) rfl g0 hg0 ?_; rw [hw0])
    | (go_at_call 52; refine hda.out.mono ?_; rintro e w1 ⟨rfl, hp, hq⟩; have F1 := hide hp; have D1 := hide hq; have hfz := hq.frozen 3; have hold := (hq.cell 3).trans (show _ = some (.int .i64 ((0 : Nat) : Int)) from rfl); clear hp hq hc)
    | fail)
  have D2 : Blk (w1.setCell ⟨L.p, 3, none⟩ (.int .i64 (step : Int))) L.p (dvC L.gi D.n L.vp L.gn step (.slice none 0 0) 0 0 D.down D.calls) 102 := D1.out.set 3 _
  have F2 : Fx (One L.p) w0 (w1.setCell ⟨L.p, 3, none⟩ (.int .i64 (step : Int))) := F1.out.and (Fx.setCell _ _ _ _ rfl)
  have L2 : Blk (w1.setCell ⟨L.p, 3, none⟩ (.int .i64 (step : Int))) g0 (lossC v torn off) 63 := B0.out.fx F2 hpg
  have V2 : Has64 (w1.setCell ⟨L.p, 3, none⟩ (.int .i64 (step : Int))) v ks := HV.out.fx0 F2 hvn
  clear hfz hold
  obtain ⟨w2, hw2⟩ : ∃ w2, w1.setCell ⟨L.p, 3, none⟩ (.int .i64 (step : Int)) = w2 := ⟨_, rfl⟩
  rw [hw2] at D2 F2 L2 V2 ⊢
  have bd : Below w2.heap.size w2 { w2 with drawn := w2.drawn + 1 } := below_drawn w2
  replace D2 := D2.on bd
  replace L2 := L2.on bd
  replace F2 := F2.and (Fx.of_below bd)
  replace V2 := V2.fx (Fx.of_below (S := fun _ => False) bd) (fun _ _ h => h)
  clear bd
  refine reg_ord [(0, false), (1, false), (2, false), (3, false), (5, false), (6, false), (7, false), (8, false), (4, true), (9, true), (10, false), (11, false), (12, true)] (fun W => Blk W g0 (lossC v torn off) 63) (by kernel_rfl) rfl (by kernel_rfl) (L2) ?_
  simp only [ordOps, List.getD_cons_zero, List.getD_cons_succ]
  obtain ⟨wd, hwd⟩ : ∃ wd, { w2 with drawn := w2.drawn + 1 } = wd := ⟨_, rfl⟩
  rw [hwd] at D2 F2 L2 V2 ⊢
  have hmk := run_mk36 wd ks.length hkl
  obtain ⟨g, hg⟩ : ∃ g, wd.heap.size = g := ⟨_, rfl⟩
  have K3 : Blk (wd.alloc (.cells (List.replicate ks.length (Value.int .u64 0)).toArray 168)) g (List.replicate ks.length (Value.int .u64 0)) 168 := Blk.newAt hg
  have be3 : Below wd.heap.size wd (wd.alloc (.cells (List.replicate ks.length (Value.int .u64 0)).toArray 168)) := below_new wd _
  have hg3 : (wd.alloc (.cells (List.replicate ks.length (Value.int .u64 0)).toArray 168)).heap.size = g + 1 := by simp [hg]
  obtain ⟨w3, hw3⟩ : ∃ w3, wd.alloc (.cells (List.replicate ks.length (Value.int .u64 0)).toArray 168) = w3 := ⟨_, rfl⟩
  rw [hw3] at K3 be3 hg3
  rw [hw3, hg] at hmk
  have L3 := L2.on be3
  have D3 := D2.on be3
  have D4 : Blk (w3.setCells L.p 4 (lossC (.slice (some ⟨g, 0, none⟩) ks.length ks.length) torn off)) L.p (dvC L.gi D.n L.vp L.gn step (.slice (some ⟨g, 0, none⟩) ks.length ks.length) torn off D.down D.calls) 102 := Blk.setCells (lossC (.slice (some ⟨g, 0, none⟩) ks.length ks.length) torn off) 4 w3 _ D3 (by simp [lossC, dvC])
  have F4 : Fx (One L.p) w3 (w3.setCells L.p 4 (lossC (.slice (some ⟨g, 0, none⟩) ks.length ks.length) torn off)) := Fx.setCells (S := One L.p) L.p rfl _ _ _
  have th3 : w3.there L.p 4 (lossC (.slice (some ⟨g, 0, none⟩) ks.length ks.length) torn off).length := fun j hj => by
    refine ⟨?_, D3.frozen _⟩
    rw [D3.cell]
    match j, hj with
    | 0, _ => rfl
    | 1, _ => rfl
    | 2, _ => rfl
  have hlen := V2.len2
  refine wpOrd_val (.pointer (some ⟨L.p, 0, none⟩)) (uvV (by rfl) (Op.move (Operand.tmp 0)) rfl (.pointer (some ⟨L.p, 0, none⟩)) (fun o' ho W hW => by go_simp)) (by simp only [Act.put, List.setIfInBounds_toArray, List.set_cons_zero, List.set_cons_succ]; rfl) ?_; refine wpOrd_val (.pointer (some ⟨g0, 0, none⟩)) (uvV (by rfl) (Op.fieldAddr 63 (Operand.tmp 5) 0) rfl (.pointer (some ⟨g0, 0, none⟩)) (fun o' ho W hW => by go_simp)) (by simp only [Act.put, List.setIfInBounds_toArray, List.set_cons_zero, List.set_cons_succ]; rfl) ?_; refine wpOrd_val (v) (uvV (by rfl) (Op.load 61 (Operand.tmp 22)) rfl (v) (fun o' ho W hW => by have hc : W.cell? ⟨g0, 0, none⟩ = some (v) := (Blk.cell hW 0).trans rfl; go_simp)) (by simp only [Act.put, List.setIfInBounds_toArray, List.set_cons_zero, List.set_cons_succ]; rfl) ?_; refine wpOrd_val (.int .i64 (ks.length : Int)) (uvV (by rfl) (Op.call { callee := Callee.builtin Builtin.len, args := #[Operand.tmp 23], argTypes := #[61] }) rfl (.int .i64 (ks.length : Int)) (fun o' ho W hW => by go_simp)) (by simp only [Act.put, List.setIfInBounds_toArray, List.set_cons_zero, List.set_cons_succ]; rfl) ?_; refine wpOrd_val (.pointer (some ⟨g0, 1, none⟩)) (uvV (by rfl) (Op.fieldAddr 63 (Operand.tmp 5) 1) rfl (.pointer (some ⟨g0, 1, none⟩)) (fun o' ho W hW => by go_simp)) (by simp only [Act.put, List.setIfInBounds_toArray, List.set_cons_zero, List.set_cons_succ]; rfl) ?_; refine wpOrd_val (.int .i64 torn) (uvV (by rfl) (Op.load 3 (Operand.tmp 26)) rfl (.int .i64 torn) (fun o' ho W hW => by have hc : W.cell? ⟨g0, 1, none⟩ = some (.int .i64 torn) := (Blk.cell hW 1).trans rfl; go_simp)) (by simp only [Act.put, List.setIfInBounds_toArray, List.set_cons_zero, List.set_cons_succ]; rfl) ?_; refine wpOrd_val (.pointer (some ⟨g0, 2, none⟩)) (uvV (by rfl) (Op.fieldAddr 63 (Operand.tmp 5) 2) rfl (.pointer (some ⟨g0, 2, none⟩)) (fun o' ho W hW => by go_simp)) (by simp only [Act.put, List.setIfInBounds_toArray, List.set_cons_zero, List.set_cons_succ]; rfl) ?_; refine wpOrd_val (.int .i64 off) (uvV (by rfl) (Op.load 3 (Operand.tmp 28)) rfl (.int .i64 off) (fun o' ho W hW => by have hc : W.cell? ⟨g0, 2, none⟩ = some (.int .i64 off) := (Blk.cell hW 2).trans rfl; go_simp)) (by simp only [Act.put, List.setIfInBounds_toArray, List.set_cons_zero, List.set_cons_succ]; rfl) ?_; refine wpOrd_to (by rfl) (.slice (some ⟨g, 0, none⟩) ks.length ks.length) (w3) (fun W => Blk W g0 (lossC v torn off) 63) (L3) (fun _ h => h) (OpTo.mks 61 (.tmp 24) (.tmp 24) rfl _ _ _ rfl rfl hmk) (by simp only [Act.put, List.setIfInBounds_toArray, List.set_cons_zero, List.set_cons_succ]; rfl) ?_; refine wpOrd_to (by rfl) (.agg (lossC (.slice (some ⟨g, 0, none⟩) ks.length ks.length) torn off).toArray) (w3) (fun W => Blk W g0 (lossC v torn off) 63) (L3) (fun _ h => h) (OpTo.build3 63 (.tmp 25) (.tmp 27) (.tmp 29) rfl (.slice (some ⟨g, 0, none⟩) ks.length ks.length) (.int .i64 torn) (.int .i64 off) _ rfl rfl rfl (build38s _ _ _ _ _ _)) (by simp only [Act.put, List.setIfInBounds_toArray, List.set_cons_zero, List.set_cons_succ]; rfl) ?_; refine wpOrd_val (.pointer (some ⟨L.p, 0, none⟩)) (uvV (by rfl) (Op.nilCheck (Operand.tmp 21)) rfl (.pointer (some ⟨L.p, 0, none⟩)) (fun o' ho W hW => by go_simp)) (by simp only [Act.put, List.setIfInBounds_toArray, List.set_cons_zero, List.set_cons_succ]; rfl) ?_; refine wpOrd_val (.pointer (some ⟨L.p, 4, none⟩)) (uvV (by rfl) (Op.fieldAddr 102 (Operand.tmp 31) 4) rfl (.pointer (some ⟨L.p, 4, none⟩)) (fun o' ho W hW => by go_simp)) (by simp only [Act.put, List.setIfInBounds_toArray, List.set_cons_zero, List.set_cons_succ]; rfl) ?_; refine wpOrd_to (by rfl) (undef) (w3.setCells L.p 4 (lossC (.slice (some ⟨g, 0, none⟩) ks.length ks.length) torn off)) (fun W => Blk W g0 (lossC v torn off) 63) (L3.fx F4 hpg) (fun _ h => h) (OpTo.storeMid 63 (.tmp 32) (.tmp 30) rfl L.p 4 (lossC (.slice (some ⟨g, 0, none⟩) ks.length ks.length) torn off) rfl rfl th3 (info38 _ _ _) (lossC_oneA _ _ _ _ _)) (by simp only [Act.put, List.setIfInBounds_toArray, List.set_cons_zero, List.set_cons_succ]; rfl) ?_
  intro W hW
  rw [hW]
  clear hW W
  have F5 : Fx (One L.p) w (w3.setCells L.p 4 (lossC (.slice (some ⟨g, 0, none⟩) ks.length ks.length) torn off)) := (((Fx.of_below BE.out).and F2).and (Fx.of_below be3)).and F4
  have K4 := K3.fx F4 (by have := D2.lt; show ¬ g = L.p; omega)
  have L4 := L3.fx F4 hpg
  have V4 : Has64 (w3.setCells L.p 4 (lossC (.slice (some ⟨g, 0, none⟩) ks.length ks.length) torn off)) v ks := (V2.fx (Fx.of_below (S := fun _ => False) be3) (fun _ _ h => h)).fx0 F4 hvn
  have hgl : g < (w3.setCells L.p 4 (lossC (.slice (some ⟨g, 0, none⟩) ks.length ks.length) torn off)).heap.size := K4.lt
  have hw0g : w0.heap.size ≤ g := by have := F2.size; omega
  have hwg : w.heap.size ≤ g := by have := BE.out.size; have := F2.size; omega
  have hvg : ∀ k, v.ownBlock = some k → k < g ∨ ks = [] := fun k hk => by
    rcases V2 with ⟨rfl, e⟩ | ⟨ad, cap, rfl, h2, h3⟩
    · exact .inr e
    · cases ks with
      | nil => exact .inr rfl
      | cons u r =>
        left
        have := cell_lt (h3 0 u rfl)
        simp [Value.ownBlock] at hk
        rw [add_block] at this
        omega
  obtain ⟨w4, hw4⟩ : ∃ w4, w3.setCells L.p 4 (lossC (.slice (some ⟨g, 0, none⟩) ks.length ks.length) torn off) = w4 := ⟨_, rfl⟩
  rw [hw4] at D4 F5 K4 L4 V4 hgl ⊢
  clear D2 F2 L2 V2 hmk K3 be3 hg3 L3 D3 F4 th3 hw4 hw3 hwd hw2 hg hlen
  go_upto_region 10 with fail
  have bd : Below w4.heap.size w4 { w4 with drawn := w4.drawn + 1 } := below_drawn w4
  replace D4 := D4.on bd
  replace L4 := L4.on bd
  replace F5 := F5.and (Fx.of_below bd)
  replace V4 := V4.fx (Fx.of_below (S := fun _ => False) bd) (fun _ _ h => h)
  replace K4 := K4.on bd
  replace hgl := K4.lt
  clear bd
  refine reg_ord [(0, false), (1, false), (2, false), (3, false), (4, false), (5, false), (6, false), (7, true)] (fun W => Blk W g0 (lossC v torn off) 63 ∧ Blk W L.p (dvC L.gi D.n L.vp L.gn step (.slice (some ⟨g, 0, none⟩) ks.length ks.length) torn off D.down D.calls) 102) (by kernel_rfl) rfl (by kernel_rfl) (⟨L4, D4⟩) ?_
  simp only [ordOps, List.getD_cons_zero, List.getD_cons_succ]
  obtain ⟨wd, hwd⟩ : ∃ wd, { w4 with drawn := w4.drawn + 1 } = wd := ⟨_, rfl⟩
  rw [hwd] at D4 F5 K4 L4 V4 hgl ⊢
  have K6 : Blk (wd.setCells g 0 (ks.map wv)) g (ks.map wv) 168 := by
    have := Blk.setCells (ks.map wv) 0 wd _ K4 (by simp)
    simpa using this
  have F6 : Fx (One g) wd (wd.setCells g 0 (ks.map wv)) := Fx.setCells (S := One g) g rfl _ _ _
  have hcp : (Builtin.copy_ #[61, 61] 3 #[.slice (some ⟨g, 0, none⟩) ks.length ks.length, v]).run Tryz.prog wd = .ok (.int .i64 (ks.length : Int)) (wd.setCells g 0 (ks.map wv)) := by
    rcases V4 with ⟨rfl, rfl⟩ | ⟨ad, cap, rfl, h2, h3⟩
    · have := run_copy_none (P := Tryz.prog) wd 61 61 3 168 (some ⟨g, 0, none⟩) none 0 0 0 0 Tryz.underlying61 info39s (by simp)
      simpa [goInt, World.setCells] using this
    · have := run_copy_cells (P := Tryz.prog) wd 61 61 3 168 g 0 ks.length ks.length ad ks.length cap (ks.map wv) Tryz.underlying61 info39s (by simp)
        (fun j v hj => by
          rw [List.getElem?_map, Option.map_eq_some_iff] at hj
          obtain ⟨u, hu, rfl⟩ := hj
          exact h3 j u hu)
        (fun j hj => by
          rw [Nat.zero_add, K4.cell, List.getElem?_eq_getElem (by simpa using hj)]; rfl) (fun j _ => K4.frozen _) (fun x hx => by
          obtain ⟨u, _, rfl⟩ := List.mem_map.1 hx
          rfl)
      simpa [goInt] using this
  have hgp : ¬ L.p = g := by have := H.out.dev.lt; omega
  have hg0g : ¬ g0 = g := by have := B0.out.lt; omega
  have D7 := D4.fx F6 hgp
  have HS7 : ∀ W, W = wd.setCells g 0 (ks.map wv) → Blk W g0 (lossC v torn off) 63 ∧ Blk W L.p (dvC L.gi D.n L.vp L.gn step (.slice (some ⟨g, 0, none⟩) ks.length ks.length) torn off D.down D.calls) 102 := fun W hW => by rw [hW]; exact ⟨L4.fx F6 hg0g, D7⟩
  refine wpOrd_val (.pointer (some ⟨L.p, 0, none⟩)) (uvV (by rfl) (Op.move (Operand.tmp 0)) rfl (.pointer (some ⟨L.p, 0, none⟩)) (fun o' ho W hW => by go_simp)) (by simp only [Act.put, List.setIfInBounds_toArray, List.set_cons_zero, List.set_cons_succ]; rfl) ?_; refine wpOrd_val (.pointer (some ⟨L.p, 0, none⟩)) (uvV (by rfl) (Op.nilCheck (Operand.tmp 33)) rfl (.pointer (some ⟨L.p, 0, none⟩)) (fun o' ho W hW => by go_simp)) (by simp only [Act.put, List.setIfInBounds_toArray, List.set_cons_zero, List.set_cons_succ]; rfl) ?_; refine wpOrd_val (.pointer (some ⟨L.p, 4, none⟩)) (uvV (by rfl) (Op.fieldAddr 102 (Operand.tmp 34) 4) rfl (.pointer (some ⟨L.p, 4, none⟩)) (fun o' ho W hW => by go_simp)) (by simp only [Act.put, List.setIfInBounds_toArray, List.set_cons_zero, List.set_cons_succ]; rfl) ?_; refine wpOrd_val (.pointer (some ⟨L.p, 4, none⟩)) (uvV (by rfl) (Op.fieldAddr 63 (Operand.tmp 35) 0) rfl (.pointer (some ⟨L.p, 4, none⟩)) (fun o' ho W hW => by go_simp)) (by simp only [Act.put, List.setIfInBounds_toArray, List.set_cons_zero, List.set_cons_succ]; rfl) ?_; refine wpOrd_val (.slice (some ⟨g, 0, none⟩) ks.length ks.length) (uvV (by rfl) (Op.load 61 (Operand.tmp 36)) rfl (.slice (some ⟨g, 0, none⟩) ks.length ks.length) (fun o' ho W hW => by have hc : W.cell? ⟨L.p, 4, none⟩ = some (.slice (some ⟨g, 0, none⟩) ks.length ks.length) := (Blk.cell hW.2 4).trans rfl; go_simp)) (by simp only [Act.put, List.setIfInBounds_toArray, List.set_cons_zero, List.set_cons_succ]; rfl) ?_; refine wpOrd_val (.pointer (some ⟨g0, 0, none⟩)) (uvV (by rfl) (Op.fieldAddr 63 (Operand.tmp 5) 0) rfl (.pointer (some ⟨g0, 0, none⟩)) (fun o' ho W hW => by go_simp)) (by simp only [Act.put, List.setIfInBounds_toArray, List.set_cons_zero, List.set_cons_succ]; rfl) ?_; refine wpOrd_val (v) (uvV (by rfl) (Op.load 61 (Operand.tmp 38)) rfl (v) (fun o' ho W hW => by have hc : W.cell? ⟨g0, 0, none⟩ = some (v) := (Blk.cell hW.1 0).trans rfl; go_simp)) (by simp only [Act.put, List.setIfInBounds_toArray, List.set_cons_zero, List.set_cons_succ]; rfl) ?_; refine wpOrd_to (by rfl) (.int .i64 (ks.length : Int)) (wd.setCells g 0 (ks.map wv)) (fun W => W = wd.setCells g 0 (ks.map wv)) (rfl) (HS7) (OpTo.copy 61 61 (.tmp 37) (.tmp 39) rfl _ _ _ rfl rfl hcp) (by simp only [Act.put, List.setIfInBounds_toArray, List.set_cons_zero, List.set_cons_succ]; rfl) ?_
  intro W hW
  rw [hW]
  clear hW W
  have hsz : g < (wd.setCells g 0 (ks.map wv)).heap.size := K6.lt
  have F7 : Fx (fun k => k = L.p ∨ k = g) w (wd.setCells g 0 (ks.map wv)) := (F5.mono (fun i _ h => .inl h)).and (F6.mono (fun i _ h => .inr h))
  obtain ⟨w6, hw6⟩ : ∃ w6, wd.setCells g 0 (ks.map wv) = w6 := ⟨_, rfl⟩
  rw [hw6] at K6 D7 hsz F7 ⊢
  clear F6 hcp HS7 D4 F5 K4 L4 V4 hgl
  have F8 : Fx (One L.p) w w6 := F7.mono (fun i hi h => by
    rcases h with h | h
    · exact h
    · omega)
  have KK := hide K6
  have DD := hide D7
  have FF := hide F8
  clear K6 D7 F8 F7
  go_wp2
  go_ret
  refine ⟨rfl, armL L (.slice (some ⟨g, 0, none⟩) ks.length ks.length), ⟨FF.out.mono (fun i _ h => .inl h), fun k hk => ?_, rfl⟩, H.out.armed g hwg hsz FF.out step ks torn off DD.out KK.out⟩
  rcases hk with h | h | h | h | h | h
  · exact .inl (.inl h)
  · exact .inl (.inr (.inl h))
  · exact .inl (.inr (.inr (.inl h)))
  · exact .inl (.inr (.inr (.inr (.inl h))))
  · right
    have : g = k := by simpa [armL, Value.ownBlock] using h
    omega
  · exact .inl (.inr (.inr (.inr (.inr (.inr h)))))
end Go.Proofs.YtmbgeojjklboeaaGreatDoor

set_option linter.unusedVariables false
set_option linter.unusedSimpArgs false
namespace Go.Proofs.YtmbgeojjklboeaaGreatDoor
open Go.RowKit

theorem ldcP {W : World} {q j : Nat} {cs : List Value} {t : TypeId} {o : Option Addr} (hb : Blk W q cs t) (h : cs[j]? = some (.pointer o)) : (Instr.loadAt 37 (.pointer (some ⟨q, j, none⟩))).run Tryz.prog W = .ok (.pointer o) W := by
  have hc : W.cell? ⟨q, j, none⟩ = some (.pointer o) := (hb.cell j).trans h
  have hf := hb.frozen j
  go_simp
theorem str_ne (a : List UInt8) (W : World) (x y : Operand) : (do eqGuard .neq 9 x y (strV a) (strV a); binOp .neq 9 (strV a) (strV a) : Sem Value).run Tryz.prog W = .ok (.bool false) W := by
  unfold strV
  go_simp
def stE (q : Nat) (v : Value) (t : Nat) : List (Nat × Value) := [(0, .pointer (some ⟨q, 0, none⟩)), (1, v), (5, .int .i64 (t : Int))]
theorem Os.item' {w : World} {b : Nat} {v : Value} {xs : List (List UInt8)} (h : Os w b v xs) {i : Nat} {x : List UInt8} (hi : xs[i]? = some x) : ∃ ad, (∀ W, (Instr.indexAt 38 v (.int .i64 (i : Int))).run Tryz.prog W = .ok (.pointer (some ad)) W) ∧ ∀ W, Below w.heap.size w W → (Instr.loadAt 9 (.pointer (some ad))).run Tryz.prog W = .ok (strV x) W := by
  obtain ⟨ad, h1, _⟩ := h.item hi
  refine ⟨ad, h1, fun W hW => ?_⟩
  obtain ⟨ad', h2, h3⟩ := (h.below hW).item hi
  have e := (h1 W).symm.trans (h2 W)
  simp only [Result.ok.injEq, Value.pointer.injEq, Option.some.injEq, and_true] at e
  rw [e]
  exact h3
set_option maxRecDepth 100000 in
set_option maxHeartbeats 1000000 in
theorem stands_ok {w : World} {L : Lay} {N : Nat} {s : Nat → List UInt8} {m c q ql p more b : Nat} {d : Option Addr} {v0 v : Value} {ps : List (List UInt8)} (h : Dk w L N s m c) (hb : Blk w q (rmC d (some ⟨ql, 0, none⟩) p more v0) 40) (hlg : Blk w ql (lgC L.p p .nilIface) 88) (hpN : 4 * p + 1 ≤ N) (hN : N ≤ 4096) (hs : Os w b v ps) (hpp : ps.length = p) (hps : ∀ i x, ps[i]? = some x → x = s (1 + 2 * (p + i)) ++ s (1 + 2 * (p + i) + 1)) : Calls Tryz.prog 21 #[.pointer (some ⟨q, 0, none⟩), v] w fun e w' => e = .returned (.bool true) ∧ Below w.heap.size w w' := by
  refine calls_of_args [.pointer (some ⟨q, 0, none⟩), v] Tryz.func21 rfl 36 Tryz.ntmps21 (by show 2 ≤ 36; decide) ?_; refine EW.seq ?_; refine EW.region ?_; refine WL.assign rfl rfl rfl ?_; refine WL.done ?_; refine EW.on ?_; refine EW.seq ?_; refine EW.seq ?_; refine EW.region ?_; refine WL.assign rfl rfl rfl ?_; refine WL.done ?_; refine EW.on ?_; refine EW.block ?_; refine EW.loop (stE q v) (fun t W => t ≤ p ∧ Below w.heap.size w W) (fun t => p - t) 0 [0, 1, 5] rfl ⟨Nat.zero_le _, Below.refl _ _⟩ ?_
  rintro t wi ⟨htl, be⟩
  show EW _ _ _ _ [(0, .pointer (some ⟨q, 0, none⟩)), (1, v), (5, .int .i64 (t : Int))] _
  refine EW.seq ?_; refine EW.seq ?_; refine EW.region ?_; refine WL.move rfl rfl rfl ?_; refine WL.move rfl rfl rfl ?_; refine WL.nilc rfl rfl rfl ?_; refine WL.field rfl rfl rfl (fld44 q 2 (by decide) _) ?_; refine WL.load rfl rfl rfl (ldc3 (hb.on be) rfl) ?_; refine WL.bin rfl rfl rfl rfl (int_lt_d _ _ _ _ _) ?_; refine WL.done ?_; refine EW.on ?_; refine EW.cond_d rfl (fun h13 => ?_) (fun h13 => ?_)
  · refine EW.skip ?_; refine EW.on ?_; refine EW.seq ?_; refine EW.block ?_; refine EW.seq ?_
    have ht : t < p := by omega
    obtain ⟨x, hx⟩ : ∃ x, ps[t]? = some x := ⟨_, List.getElem?_eq_getElem (by omega)⟩
    obtain ⟨ad, ix, lx⟩ := hs.item' hx
    refine EW.region ?_; refine WL.move rfl rfl rfl ?_; refine WL.nilc rfl rfl rfl ?_; refine WL.field rfl rfl rfl (fld44 q 1 (by decide) _) ?_; refine WL.load rfl rfl rfl (ldcP (hb.on be) rfl) ?_; refine WL.move rfl rfl rfl ?_; refine WL.call [.pointer (some ⟨ql, 0, none⟩), .int .i64 (t : Int)] enter16 rfl rfl rfl (read_log (h.below be) (hlg.on be) hpN hN t ht) ?_
    rintro _ w2 ⟨u, rfl, o2, e2⟩
    refine ⟨_, rfl, ?_⟩
    have e02 := be.trans (e2.mono be.size)
    have o2' := o2.has
    rw [← hps t x hx] at o2'
    refine WL.move rfl rfl rfl ?_; refine WL.extract rfl rfl rfl (ext_2 _ _ _).1 ?_; refine WL.extract rfl rfl rfl (ext_2 _ _ _).2 ?_; refine WL.assign rfl rfl rfl ?_; refine WL.assign rfl rfl rfl ?_; refine WL.done ?_; refine EW.on ?_; refine EW.seq ?_; refine EW.ordB [(0, 0, 0), (1, 0, 0), (2, 0, 0), (3, 0, 0), (4, 0, 1), (5, 0, 0), (6, 0, 0), (7, 0, 0), (8, 0, 1), (9, 0, 0), (10, 0, 0)] (by kernel_rfl) rfl (by kernel_rfl) ?_; simp only [opsZ, List.getD_cons_zero, List.getD_cons_succ]; refine ZE.move rfl rfl rfl rfl sz0 ?_; refine ZE.bin rfl rfl rfl rfl rfl sz0 (fun W => ne24n _ _) ?_; refine ZE.move rfl rfl rfl rfl sz0 ?_
    first | refine ZE.move rfl rfl rfl rfl sz0 ?_ | refine ZE.skip rfl rfl rfl sz0 ?_
    refine ZE.conv (v := strV x) rfl rfl rfl rfl sz1 (fun W hW => (o2'.below (sb_of hW)).convert) ?_
    first | refine ZE.move rfl rfl rfl rfl sz0 ?_ | refine ZE.skip rfl rfl rfl sz0 ?_
    first | refine ZE.move rfl rfl rfl rfl sz0 ?_ | refine ZE.skip rfl rfl rfl sz0 ?_
    refine ZE.index rfl rfl rfl rfl rfl sz0 (fun W => ix W) ?_; refine ZE.load rfl rfl rfl rfl sz1 (fun W hW => lx W (e02.trans ((sb_of hW).mono e02.size))) ?_; refine ZE.bin rfl rfl rfl rfl rfl sz0 (fun W => str_ne _ W _ _) ?_; refine ZE.pick rfl rfl rfl rfl rfl sz0 ?_
    rintro W5 hW5
    refine EW.on ?_; refine EW.cond_f rfl ?_; refine EW.skip ?_; refine pn_block ?_; refine EW.on ?_; refine EW.region ?_; refine WL.move rfl rfl rfl ?_; refine WL.bin rfl rfl rfl rfl (int_add (c := ((t + 1 : Nat) : Int)) (by rw [IntKind.wrap_i64]; omega) _ _ _) ?_; refine WL.assign rfl rfl rfl ?_; refine WL.done ?_; refine EW.again (E := stE q v) (R := fun t W => t ≤ p ∧ Below w.heap.size w W) (m := fun t => p - t) (x := t) (t + 1) [0, 1, 5] rfl ⟨by omega, e02.trans (hW5.mono e02.size)⟩ (by show p - (t + 1) < p - t; omega)
  · refine EW.exit ?_; refine px_then ?_; refine px_then ?_; refine px_block ?_; refine EW.on ?_; refine EW.seq ?_; refine EW.region ?_; refine WL.assign rfl rfl rfl ?_; refine WL.done ?_; refine EW.on ?_; refine EW.ret ?_
    exact EW.returns Tryz.results21 rfl ⟨rfl, be⟩
end Go.Proofs.YtmbgeojjklboeaaGreatDoor

set_option linter.unusedVariables false
set_option linter.unusedSimpArgs false
namespace Go.Proofs.YtmbgeojjklboeaaGreatDoor
open Go.RowKit

/-- A page of the script. -/
structure Gp where
  num : Int
  fill : UInt8
  cut : Int
def gpC (g : Gp) : List Value := [.int .i64 g.num, byt g.fill, .int .i64 g.cut]
/-- The script's pages lie there. -/
structure Gs (w : World) (v : Value) (gs : List Gp) : Prop where
  sl : ∃ ao c, v = .slice ao gs.length c
  at_ : ∀ (i : Nat) (g : Gp), gs[i]? = some g → ∃ ad, (∀ W, (Instr.indexAt 30 v (.int .i64 (i : Int))).run Tryz.prog W = .ok (.pointer (some ad)) W) ∧ ∀ W, Below w.heap.size w W → (Instr.loadAt 55 (.pointer (some ad))).run Tryz.prog W = .ok (.agg (gpC g).toArray) W
theorem Gs.below {w w' : World} {v : Value} {gs : List Gp} (h : Gs w v gs) (hb : Below w.heap.size w w') : Gs w' v gs := ⟨h.sl, fun i g hg => by
  obtain ⟨ad, h1, h2⟩ := h.at_ i g hg
  exact ⟨ad, h1, fun W hW => h2 W (hb.trans (hW.mono hb.size))⟩⟩
/-- The pages that are written together. -/
def wStep (p : Nat) (acc : List (Nat × UInt8)) (g : Gp) : List (Nat × UInt8) := if pickN g.num p ∈ acc.map Prod.fst then acc else acc ++ [(pickN g.num p, g.fill)]
def wantP (p : Nat) (gs : List Gp) : List (Nat × UInt8) := gs.foldl (wStep p) []
theorem wantP_snoc (p : Nat) (gs : List Gp) (g : Gp) (t : Nat) (h : gs[t]? = some g) : wantP p (gs.take (t + 1)) = wStep p (wantP p (gs.take t)) g := by
  unfold wantP
  rw [List.take_add_one, h]
  simp
theorem wStep_lt (p : Nat) (hp : 0 < p) (acc : List (Nat × UInt8)) (g : Gp) (h : ∀ x ∈ acc, x.1 < p) : ∀ x ∈ wStep p acc g, x.1 < p := fun x hx => by
  unfold wStep at hx
  split at hx
  · exact h x hx
  · rcases List.mem_append.1 hx with e | e
    · exact h x e
    · rw [List.mem_singleton.1 e]; exact pickN_lt _ _ hp
theorem wStep_nodup (p : Nat) (acc : List (Nat × UInt8)) (g : Gp) (h : (acc.map Prod.fst).Nodup) : ((wStep p acc g).map Prod.fst).Nodup := by
  unfold wStep
  split
  · exact h
  · rename_i hn
    rw [List.map_append, List.nodup_append]
    refine ⟨h, by simp, fun a ha b hb => ?_⟩
    simp at hb
    rintro rfl
    exact hn (hb ▸ ha)
theorem wStep_len (p : Nat) (acc : List (Nat × UInt8)) (g : Gp) : (wStep p acc g).length ≤ acc.length + 1 := by
  unfold wStep
  split
  · omega
  · rw [List.length_append]; simp
/-- All pages behind them. -/
def aftL (ps : List (List UInt8)) (acc : List (Nat × UInt8)) : List (List UInt8) := acc.foldl (fun ps a => ps.set a.1 (pgB a.1 a.2)) ps
theorem aftL_len (ps : List (List UInt8)) : ∀ acc, (aftL ps acc).length = ps.length := fun acc => by
  unfold aftL
  induction acc generalizing ps with
  | nil => rfl
  | cons a r ih => rw [List.foldl_cons, ih, List.length_set]
theorem aftL_snoc (ps : List (List UInt8)) (acc : List (Nat × UInt8)) (a : Nat × UInt8) : aftL ps (acc ++ [a]) = (aftL ps acc).set a.1 (pgB a.1 a.2) := by
  unfold aftL
  rw [List.foldl_append]; rfl
def dnC (p : Nat) (acc : List (Nat × UInt8)) : List Value := (List.range p).map fun j => Value.bool (decide (j ∈ acc.map Prod.fst))
theorem dnC_nil (p : Nat) : dnC p [] = List.replicate p (Value.bool false) := by
  apply List.ext_getElem?
  intro i
  simp only [dnC, List.getElem?_map, List.getElem?_replicate]
  by_cases h : i < p <;> simp [h]
theorem dnC_get (p : Nat) (acc : List (Nat × UInt8)) (i : Nat) (h : i < p) : (dnC p acc)[i]? = some (.bool (decide (i ∈ acc.map Prod.fst))) := by
  simp [dnC, h]
theorem dnC_set (p : Nat) (acc : List (Nat × UInt8)) (a : Nat × UInt8) (h : a.1 < p) : (dnC p acc).set a.1 (.bool true) = dnC p (acc ++ [a]) := by
  apply List.ext_getElem?
  intro i
  rw [List.getElem?_set]
  have hl : (dnC p acc).length = p := by simp [dnC]
  rcases Nat.lt_or_ge i p with hi | hi
  · rw [dnC_get p (acc ++ [a]) i hi, hl, dnC_get p acc i hi]
    by_cases e : a.1 = i
    · subst e; simp [h]
    · have e' : ¬ i = a.1 := fun h => e h.symm
      simp [e, e']
  · have e1 : (dnC p (acc ++ [a]))[i]? = none := List.getElem?_eq_none (by simp [dnC]; omega)
    have e2 : (dnC p acc)[i]? = none := List.getElem?_eq_none (by rw [hl]; omega)
    rw [e1, e2]
    by_cases e : a.1 = i
    · omega
    · simp [e]
theorem own_type {w : World} {b : Nat} {e : TypeId} {size n : Nat} {v : Value} {xs : List Value} (h : w.ownsRow b e size v n xs) {k : Nat} (hk : v.ownBlock = some k) : ∃ cur, w.heap[k]? = some (.cells cur e (0, 0)) := by
  obtain ⟨_, ⟨rfl, _⟩ | ⟨g, cp, cur, rfl, hg, hh2, _⟩⟩ := h
  · cases hk
  · simp only [Value.ownBlock, Option.some.injEq] at hk
    subst hk
    exact ⟨cur, hh2⟩
/-- Blocks of unlike kinds are two. -/
theorem ne_type {w : World} {k q : Nat} {cs : List Value} {t e : TypeId} (h : ∃ cur, w.heap[k]? = some (.cells cur e (0, 0))) (hq : Blk w q cs t) (ht : ¬ e = t) : ¬ k = q := by
  rintro rfl
  obtain ⟨cur, h⟩ := h
  unfold Blk at hq
  rw [h] at hq
  simp at hq
  exact ht hq.2
theorem ne_type2 {w : World} {k q : Nat} {t e : TypeId} (h : ∃ cur, w.heap[k]? = some (.cells cur e (0, 0))) (hq : ∃ cur, w.heap[q]? = some (.cells cur t (0, 0))) (ht : ¬ e = t) : ¬ k = q := by
  rintro rfl
  obtain ⟨cur, h⟩ := h
  obtain ⟨cur', hq⟩ := hq
  rw [h] at hq
  simp at hq
  exact ht hq.2
theorem Os.clone {w : World} {b : Nat} {v : Value} {ps : List (List UInt8)} (h : Os w b v ps) (hl : ps.length ≤ 1000) (ty : TypeId) : ∃ v' w', (Builtin.append_ #[38, 38] ty #[.slice none 0 0, v]).run Tryz.prog w = .ok v' w' ∧ Os w' w.heap.size v' ps ∧ Below w.heap.size w w' := by
  obtain ⟨i, hi, hz⟩ := Option.map_eq_some_iff.1 (show (Tryz.prog.info? 9).map (fun i => (i.zero, i.size, i.bytes)) = some (some (.string ⟨#[]⟩), 1, 16) by kernel_rfl)
  simp only [Prod.mk.injEq] at hz
  obtain ⟨hx, ⟨rfl, h0⟩ | ⟨g, cp, cur, rfl, hg, hh, hn, hc, hs, ht⟩⟩ := h.row
  · have : ps = [] := List.eq_nil_of_length_eq_zero h0
    subst this
    exact ⟨_, w, run_append_owned_none (P := Tryz.prog) w 0 38 ty 9 i 1 (by kernel_rfl) hi (.slice none 0 0) 0 [] ⟨rfl, .inl ⟨rfl, rfl⟩⟩, Os.nil _ _, Below.refl _ _⟩
  · obtain ⟨v', w', r1, r2, r3, r4⟩ := run_appx w 38 ty 9 i _ 1 16 (by kernel_rfl) hi hz.1 hz.2.1 hz.2.2 (by rfl) (by decide) (.slice none 0 0) 0 [] ⟨rfl, .inl ⟨rfl, rfl⟩⟩ ⟨g, 0, none⟩ ps.length cp (ps.map strV) hx (World.ownsRow.cells h.row (g := g) rfl) (fun u hu => by
      obtain ⟨x, _, rfl⟩ := List.mem_map.1 hu
      rfl) (by omega) (by decide)
    rw [List.nil_append, Nat.zero_add] at r2
    refine ⟨v', w', r1, ⟨r2, fun k hk => ?_⟩, (grown_fx (v := .slice none 0 0) r3).below (fun k hk e => by cases e) (Nat.le_refl _)⟩
    rcases r4 k hk with e | e
    · cases e
    · exact e
theorem new26 (w : World) : ∃ w1 q, (Instr.alloc 55 true (.tuple #[])).run Tryz.prog w = .ok (.pointer (some ⟨q, 0, none⟩)) w1 ∧ Blk w1 q [.int .i64 0, .int .u8 0, .int .i64 0] 55 ∧ Below w.heap.size w w1 ∧ q = w.heap.size :=
  ⟨_, _, run_newR 55 [.int .i64 0, .int .u8 0, .int .i64 0] (fun w => by rw [Tryz.zeroValue55]) w _ rfl, Blk.new _ _ _, below_new _ _, rfl⟩
theorem st26 {w : World} {q : Nat} {cs : List Value} (g : Gp) (hb : Blk w q cs 55) (hl : cs.length = 3) : ∃ w', (Instr.storeAt 55 (.pointer (some ⟨q, 0, none⟩)) (.agg (gpC g).toArray)).run Tryz.prog w = .ok () w' ∧ Blk w' q (gpC g) 55 ∧ Fx (fun k => k = q) w w' :=
  ⟨_, run_storeR hb (by show _ = some 3; kernel_rfl) (by rw [hl]; rfl) (by simp [gpC, byt, Value.oneCell']), hb.setRow _, ⟨rfl, rfl, rfl, by rw [setRow_size]; exact Nat.le_refl _, fun k _ hk => setRow_other w q k _ hk⟩⟩
theorem st3f {w : World} {q j : Nat} {cs : List Value} {t : TypeId} {v0 : Value} (x : Int) (hb : Blk w q cs t) (hj : cs[j]? = some v0) : ∃ w', (Instr.storeAt 3 (.pointer (some ⟨q, j, none⟩)) (.int .i64 x)).run Tryz.prog w = .ok () w' ∧ Blk w' q (cs.set j (.int .i64 x)) t ∧ Fx (fun k => k = q) w w' := by
  have hc : w.cell? ⟨q, j, none⟩ = some v0 := (hb.cell j).trans hj
  have hf := hb.frozen j
  refine ⟨w.setCell ⟨q, j, none⟩ (.int .i64 x), by go_simp, hb.set j _, Fx.setCell _ _ _ _ rfl⟩
theorem fldT (q j : Nat) (hj : j < 4) (W : World) : (Instr.fieldAt 33 (.pointer (some ⟨q, 0, none⟩)) j).run Tryz.prog W = .ok (.pointer (some ⟨q, j, none⟩)) W := by
  have h : j = 0 ∨ j = 1 ∨ j = 2 ∨ j = 3 := by omega
  obtain rfl | rfl | rfl | rfl := h <;> (go_simp; try simp; try rw [add_plain])
theorem ldG {W : World} {q j : Nat} {cs : List Value} {t : TypeId} {v : Value} (hb : Blk W q cs t) (h : cs[j]? = some v) : (Instr.loadAt 30 (.pointer (some ⟨q, j, none⟩))).run Tryz.prog W = .ok v W := by
  have hc : W.cell? ⟨q, j, none⟩ = some v := (hb.cell j).trans h
  have hf := hb.frozen j
  go_simp
theorem len31 (ao : Option Addr) (n c : Nat) (W : World) (ty : TypeId) : (Builtin.len_ #[30] ty #[.slice ao n c]).run Tryz.prog W = .ok (.int .i64 (n : Int)) W := by go_simp
/-- A turn as a value. -/
def tnC (vp vf : Value) (cr an : Bool) : List Value := [vp, .bool cr, vf, .bool an]
theorem box34 (vp vf : Value) (cr an : Bool) (w : World) : ∃ w1 q, (Instr.box 33 (.agg (tnC vp vf cr an).toArray)).run Tryz.prog w = .ok (.pointer (some ⟨q, 0, none⟩)) w1 ∧ Blk w1 q (tnC vp vf cr an) 33 ∧ Below w.heap.size w w1 ∧ q = w.heap.size :=
  ⟨_, _, run_boxR 33 _ w _ rfl, Blk.new _ _ _, below_new _ _, rfl⟩
end Go.Proofs.YtmbgeojjklboeaaGreatDoor
