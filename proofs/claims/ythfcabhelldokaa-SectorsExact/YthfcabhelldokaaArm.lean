import Derived.Test.YthfcabhelldokaaUpG
import Derived.Test.YthfcabhelldokaaOrd
set_option linter.unusedVariables false
set_option linter.unusedSimpArgs false
namespace Go.Proofs.Ythfcabhelldokaa
open Go.RowKit

section
variable {P : Program} {ops : Array Oper}
theorem OpTo.mks {o : Oper} {a : Act} {w w1 : World} (t : TypeId) (x y : Operand) (ho : o.op = .makeSlice t x y) (u u' v : Value) (hx : a.eval x = u) (hy : a.eval y = u') (h : (Instr.makeSlice t u u').run P w = .ok v w1) : OpTo P o a w v (fun W => W = w1) := by
  refine .inl ⟨w1, ?_, rfl⟩
  unfold execOp
  simp only [ho, hx, hy, Sem.run_bind, h, Result.andThen_ok, Sem.run_pure]
theorem OpTo.storeMid {op : Oper} {a : Act} {w : World} (ty : TypeId) (x y : Operand) (ho : op.op = .store ty x y) (b o : Nat) (cs : List Value) (hx : a.eval x = .pointer (some ⟨b, o, none⟩)) (hy : a.eval y = .agg cs.toArray)
    (ht : w.there b o cs.length) (hi : (P.info? ty).map (·.size) = some cs.length) (h1 : cs.toArray.all (·.oneCell') = true) : OpTo P op a w undef (fun W => W = w.setCells b o cs) := by
  refine .inr (.inl ⟨rfl, _, ?_, rfl⟩)
  unfold execOp
  simp only [ho, hx, hy, Instr.storeAt, Instr.sureAddr, Sem.run_bind, Sem.run_pure, Result.andThen_ok, run_storeVar_mid w b o ty cs.toArray (by simpa using ht) (by simpa using hi) h1]
theorem OpTo.copy {o : Oper} {a : Act} {w w1 : World} (t s : TypeId) (x y : Operand) (ho : o.op = .call { callee := .builtin .copy, args := #[x, y], argTypes := #[t, s] }) (u u' v : Value) (hx : a.eval x = u) (hy : a.eval y = u') (h : (Builtin.copy_ #[t, s] o.type #[u, u']).run P w = .ok v w1) : OpTo P o a w v (fun W => W = w1) := by
  refine .inl ⟨w1, ?_, rfl⟩
  simp [execOp, ho, resolve, invoke, builtin, hx, hy, h, Result.andThen]
theorem OpTo.build3 {o : Oper} {a : Act} {w : World} (t : TypeId) (x y z : Operand) (ho : o.op = .build t #[(0, x), (1, y), (2, z)]) (u u' u'' v : Value) (hx : a.eval x = u) (hy : a.eval y = u') (hz : a.eval z = u'') (h : (Instr.build t #[(0, u), (1, u'), (2, u'')]).run P w = .ok v w) : OpTo P o a w v (fun W => W = w) := by
  refine .inl ⟨w, ?_, rfl⟩
  unfold execOp
  simp only [ho, List.map_toArray, List.map_cons, List.map_nil, hx, hy, hz, Sem.run_bind, h, Result.andThen_ok, Sem.run_pure]
end
theorem build38s (ad : Option Addr) (l c : Nat) (t o : Int) (W : World) : (Instr.build 38 #[(0, .slice ad l c), (1, .int .i64 t), (2, .int .i64 o)]).run Try.prog W = .ok (.agg (lossC (.slice ad l c) t o).toArray) W := by kernel_rfl
theorem lossC_oneA (ad : Option Addr) (l c : Nat) (t o : Int) : (lossC (.slice ad l c) t o).toArray.all (·.oneCell') = true := all_oneCell_toArray fun v hv => by
  simp only [lossC, List.mem_cons, List.not_mem_nil, or_false] at hv
  rcases hv with rfl | rfl | rfl <;> rfl
/-- Armed with a loss. -/
def armD (D : Dv) (step : Nat) (ks : List (BitVec 64)) (torn off : Int) : Dv := ⟨D.n, D.img, D.pen, step, ks, torn, off, D.down, D.calls⟩
def armL (L : Lay) (v : Value) : Lay := ⟨L.p, L.gi, L.gn, L.vp, v, L.gs⟩
theorem Has64.len2 {w : World} {v : Value} {bs : List (BitVec 64)} (h : Has64 w v bs) : ∀ W ty, (Builtin.len_ #[36] ty #[v]).run Try.prog W = .ok (.int .i64 (bs.length : Int)) W := fun W ty => h.len W ty
/-- Behind an arming. -/
theorem Dev.armed {w w' : World} {L : Lay} {D : Dv} (h : Dev w L D) (g : Nat) (hg : w.heap.size ≤ g) (hgl : g < w'.heap.size) (hf : Fx (One L.p) w w') (step : Nat) (ks : List (BitVec 64)) (torn off : Int) (hP : Blk w' L.p (dvC L.gi D.n L.vp L.gn step (.slice (some ⟨g, 0, none⟩) ks.length ks.length) torn off D.down D.calls) 75) (hK : Blk w' g (ks.map wv) 39) : Dev w' (armL L (.slice (some ⟨g, 0, none⟩) ks.length ks.length)) (armD D step ks torn off) :=
  { dev := hP, img := h.img.fx hf (Ne.symm h.pi), new := h.new.fx hf (Ne.symm h.pn), pen := ownsRow_fx h.pen hf (fun k hk e => (h.vpn k hk).1 e),
    bys := fun k g x h1 h2 => (h.bys k g x h1 h2).fx hf (fun e => (h.gsn g (List.mem_of_getElem? h1)).1 e), gsl := h.gsl,
    kp := .inr ⟨⟨g, 0, none⟩, ks.length, rfl, Nat.le_refl _, fun i u hu => by
      have hu2 : ks[i]? = some u := hu
      rw [add_plain, hK.cell, List.getElem?_map, hu2]; rfl⟩,
    ok := ⟨h.ok.n1, h.ok.n2, h.ok.len, h.ok.sec, h.ok.few, h.ok.cal⟩, pi := h.pi, pn := h.pn, inn := h.inn,
    vpn := fun k hk => ⟨(h.vpn k hk).1, (h.vpn k hk).2.1, (h.vpn k hk).2.2.1, fun e => by
      have h1 := ownsRow_lt h.pen k hk
      simp [armL, Value.ownBlock] at e
      omega, (h.vpn k hk).2.2.2.2⟩,
    vkn := fun k hk => by
      have e : g = k := by simpa [armL, Value.ownBlock] using hk
      have h1 := h.dev.lt
      have h2 := h.img.lt
      have h3 := h.new.lt
      refine ⟨?_, ?_, ?_, by omega⟩ <;> simp only [armL] <;> omega,
    gsn := fun k hk => ⟨(h.gsn k hk).1, (h.gsn k hk).2.1, (h.gsn k hk).2.2.1, Nat.lt_of_lt_of_le (h.gsn k hk).2.2.2 hf.size⟩ }
theorem Fx.new {S : Nat → Prop} (w : World) (o : Obj) : Fx S w (w.alloc o) := Fx.of_below (below_new w o)
set_option maxRecDepth 100000 in
set_option maxHeartbeats 2000000 in
theorem arm_ok {w : World} {L : Lay} {D : Dv} (h : Dev w L D) (hd : D.down = false) (step : Nat) (hs1 : 1 ≤ step) (v : Value) (ks : List (BitVec 64)) (torn off : Int) (hv : Has64 w v ks) (hvn : ∀ k, v.ownBlock = some k → k ≠ L.p) (hkl : ks.length ≤ 17592186044416) :
    Calls Try.prog 19 #[.pointer (some ⟨L.p, 0, none⟩), .int .i64 (step : Int), .agg (lossC v torn off).toArray] w fun e w' => e = .returned (.int .i64 0) ∧ ∃ L', Turn w w' L L' ∧ Dev w' L' (armD D step ks torn off) := by
  obtain ⟨g0, hg0⟩ : ∃ g, w.heap.size = g := ⟨_, rfl⟩
  have be0 : Below w.heap.size w (w.alloc (.cells (lossC v torn off).toArray 38)) := below_new w _
  have b0 : Blk (w.alloc (.cells (lossC v torn off).toArray 38)) g0 (lossC v torn off) 38 := Blk.newAt hg0
  have h0 := h.below be0
  have hv0 := hv.fx (Fx.of_below (S := fun _ => False) be0) (fun _ _ h => h)
  have hpg : g0 ≠ L.p := by have := h.dev.lt; omega
  obtain ⟨w0, hw0⟩ : ∃ w0, w.alloc (.cells (lossC v torn off).toArray 38) = w0 := ⟨_, rfl⟩
  rw [hw0] at be0 b0 h0 hv0
  have hc := h0.c7
  rw [hd] at hc
  have hda := hide (disarm_any h0.dev)
  have H0 := hide h0
  have H := hide h
  have BE := hide be0
  have B0 := hide b0
  have HV := hide hv0
  have a1 : ¬ (step : Int) < 0 := by omega
  have a2 : ¬ (step : Int) = 0 := by omega
  clear h0 h be0 b0 hv0 hv
  go_enter Try.func19, Try.ntmps19
  go_upto_region 9 with (first
    | (refine wpList_boxAt rfl 38 (.tmp 2) rfl (lossC v torn off) rfl g0 hg0 ?_; rw [hw0])
    | (go_at_call 41; refine hda.out.mono ?_; rintro e w1 ⟨rfl, hp, hq⟩; have F1 := hide hp; have D1 := hide hq; have hfz := hq.frozen 3; have hold := (hq.cell 3).trans (show _ = some (.int .i64 ((0 : Nat) : Int)) from rfl); clear hp hq hc)
    | fail)
  have D2 : Blk (w1.setCell ⟨L.p, 3, none⟩ (.int .i64 (step : Int))) L.p (dvC L.gi D.n L.vp L.gn step (.slice none 0 0) 0 0 D.down D.calls) 75 := D1.out.set 3 _
  have F2 : Fx (One L.p) w0 (w1.setCell ⟨L.p, 3, none⟩ (.int .i64 (step : Int))) := F1.out.and (Fx.setCell _ _ _ _ rfl)
  have L2 : Blk (w1.setCell ⟨L.p, 3, none⟩ (.int .i64 (step : Int))) g0 (lossC v torn off) 38 := B0.out.fx F2 hpg
  have V2 : Has64 (w1.setCell ⟨L.p, 3, none⟩ (.int .i64 (step : Int))) v ks := HV.out.fx F2 hvn
  clear hfz hold
  obtain ⟨w2, hw2⟩ : ∃ w2, w1.setCell ⟨L.p, 3, none⟩ (.int .i64 (step : Int)) = w2 := ⟨_, rfl⟩
  rw [hw2] at D2 F2 L2 V2 ⊢
  have bd : Below w2.heap.size w2 { w2 with drawn := w2.drawn + 1 } := below_drawn w2
  replace D2 := D2.on bd
  replace L2 := L2.on bd
  replace F2 := F2.and (Fx.of_below bd)
  replace V2 := V2.fx (Fx.of_below (S := fun _ => False) bd) (fun _ _ h => h)
  clear bd
  refine reg_ord [(0, false), (1, false), (2, false), (3, false), (5, false), (6, false), (7, false), (8, false), (4, true), (9, true), (10, false), (11, false), (12, true)] (fun W => Blk W g0 (lossC v torn off) 38) (by kernel_rfl) rfl (by kernel_rfl) (L2) ?_
  simp only [ordOps, List.getD_cons_zero, List.getD_cons_succ]
  obtain ⟨wd, hwd⟩ : ∃ wd, { w2 with drawn := w2.drawn + 1 } = wd := ⟨_, rfl⟩
  rw [hwd] at D2 F2 L2 V2 ⊢
  have hmk := run_mk36 wd ks.length hkl
  obtain ⟨g, hg⟩ : ∃ g, wd.heap.size = g := ⟨_, rfl⟩
  have K3 : Blk (wd.alloc (.cells (List.replicate ks.length (Value.int .u64 0)).toArray 39)) g (List.replicate ks.length (Value.int .u64 0)) 39 := Blk.newAt hg
  have be3 : Below wd.heap.size wd (wd.alloc (.cells (List.replicate ks.length (Value.int .u64 0)).toArray 39)) := below_new wd _
  have hg3 : (wd.alloc (.cells (List.replicate ks.length (Value.int .u64 0)).toArray 39)).heap.size = g + 1 := by simp [hg]
  obtain ⟨w3, hw3⟩ : ∃ w3, wd.alloc (.cells (List.replicate ks.length (Value.int .u64 0)).toArray 39) = w3 := ⟨_, rfl⟩
  rw [hw3] at K3 be3 hg3
  rw [hw3, hg] at hmk
  have L3 := L2.on be3
  have D3 := D2.on be3
  have D4 : Blk (w3.setCells L.p 4 (lossC (.slice (some ⟨g, 0, none⟩) ks.length ks.length) torn off)) L.p (dvC L.gi D.n L.vp L.gn step (.slice (some ⟨g, 0, none⟩) ks.length ks.length) torn off D.down D.calls) 75 := Blk.setCells (lossC (.slice (some ⟨g, 0, none⟩) ks.length ks.length) torn off) 4 w3 _ D3 (by simp [lossC, dvC])
  have F4 : Fx (One L.p) w3 (w3.setCells L.p 4 (lossC (.slice (some ⟨g, 0, none⟩) ks.length ks.length) torn off)) := Fx.setCells (S := One L.p) L.p rfl _ _ _
  have th3 : w3.there L.p 4 (lossC (.slice (some ⟨g, 0, none⟩) ks.length ks.length) torn off).length := fun j hj => by
    refine ⟨?_, D3.frozen _⟩
    rw [D3.cell]
    match j, hj with
    | 0, _ => rfl
    | 1, _ => rfl
    | 2, _ => rfl
  have hlen := V2.len2
  refine wpOrd_val (.pointer (some ⟨L.p, 0, none⟩)) (uvV (by rfl) (Op.move (Operand.tmp 0)) rfl (.pointer (some ⟨L.p, 0, none⟩)) (fun o' ho W hW => by go_simp)) (by simp only [Act.put, List.setIfInBounds_toArray, List.set_cons_zero, List.set_cons_succ]; rfl) ?_
  refine wpOrd_val (.pointer (some ⟨g0, 0, none⟩)) (uvV (by rfl) (Op.fieldAddr 38 (Operand.tmp 5) 0) rfl (.pointer (some ⟨g0, 0, none⟩)) (fun o' ho W hW => by go_simp)) (by simp only [Act.put, List.setIfInBounds_toArray, List.set_cons_zero, List.set_cons_succ]; rfl) ?_
  refine wpOrd_val (v) (uvV (by rfl) (Op.load 36 (Operand.tmp 22)) rfl (v) (fun o' ho W hW => by have hc : W.cell? ⟨g0, 0, none⟩ = some (v) := (Blk.cell hW 0).trans rfl; go_simp)) (by simp only [Act.put, List.setIfInBounds_toArray, List.set_cons_zero, List.set_cons_succ]; rfl) ?_
  refine wpOrd_val (.int .i64 (ks.length : Int)) (uvV (by rfl) (Op.call { callee := Callee.builtin Builtin.len, args := #[Operand.tmp 23], argTypes := #[36] }) rfl (.int .i64 (ks.length : Int)) (fun o' ho W hW => by go_simp)) (by simp only [Act.put, List.setIfInBounds_toArray, List.set_cons_zero, List.set_cons_succ]; rfl) ?_
  refine wpOrd_val (.pointer (some ⟨g0, 1, none⟩)) (uvV (by rfl) (Op.fieldAddr 38 (Operand.tmp 5) 1) rfl (.pointer (some ⟨g0, 1, none⟩)) (fun o' ho W hW => by go_simp)) (by simp only [Act.put, List.setIfInBounds_toArray, List.set_cons_zero, List.set_cons_succ]; rfl) ?_
  refine wpOrd_val (.int .i64 torn) (uvV (by rfl) (Op.load 3 (Operand.tmp 26)) rfl (.int .i64 torn) (fun o' ho W hW => by have hc : W.cell? ⟨g0, 1, none⟩ = some (.int .i64 torn) := (Blk.cell hW 1).trans rfl; go_simp)) (by simp only [Act.put, List.setIfInBounds_toArray, List.set_cons_zero, List.set_cons_succ]; rfl) ?_
  refine wpOrd_val (.pointer (some ⟨g0, 2, none⟩)) (uvV (by rfl) (Op.fieldAddr 38 (Operand.tmp 5) 2) rfl (.pointer (some ⟨g0, 2, none⟩)) (fun o' ho W hW => by go_simp)) (by simp only [Act.put, List.setIfInBounds_toArray, List.set_cons_zero, List.set_cons_succ]; rfl) ?_
  refine wpOrd_val (.int .i64 off) (uvV (by rfl) (Op.load 3 (Operand.tmp 28)) rfl (.int .i64 off) (fun o' ho W hW => by have hc : W.cell? ⟨g0, 2, none⟩ = some (.int .i64 off) := (Blk.cell hW 2).trans rfl; go_simp)) (by simp only [Act.put, List.setIfInBounds_toArray, List.set_cons_zero, List.set_cons_succ]; rfl) ?_
  refine wpOrd_to (by rfl) (.slice (some ⟨g, 0, none⟩) ks.length ks.length) (w3) (fun W => Blk W g0 (lossC v torn off) 38) (L3) (fun _ h => h) (OpTo.mks 36 (.tmp 24) (.tmp 24) rfl _ _ _ rfl rfl hmk) (by simp only [Act.put, List.setIfInBounds_toArray, List.set_cons_zero, List.set_cons_succ]; rfl) ?_
  refine wpOrd_to (by rfl) (.agg (lossC (.slice (some ⟨g, 0, none⟩) ks.length ks.length) torn off).toArray) (w3) (fun W => Blk W g0 (lossC v torn off) 38) (L3) (fun _ h => h) (OpTo.build3 38 (.tmp 25) (.tmp 27) (.tmp 29) rfl (.slice (some ⟨g, 0, none⟩) ks.length ks.length) (.int .i64 torn) (.int .i64 off) _ rfl rfl rfl (build38s _ _ _ _ _ _)) (by simp only [Act.put, List.setIfInBounds_toArray, List.set_cons_zero, List.set_cons_succ]; rfl) ?_
  refine wpOrd_val (.pointer (some ⟨L.p, 0, none⟩)) (uvV (by rfl) (Op.nilCheck (Operand.tmp 21)) rfl (.pointer (some ⟨L.p, 0, none⟩)) (fun o' ho W hW => by go_simp)) (by simp only [Act.put, List.setIfInBounds_toArray, List.set_cons_zero, List.set_cons_succ]; rfl) ?_
  refine wpOrd_val (.pointer (some ⟨L.p, 4, none⟩)) (uvV (by rfl) (Op.fieldAddr 75 (Operand.tmp 31) 4) rfl (.pointer (some ⟨L.p, 4, none⟩)) (fun o' ho W hW => by go_simp)) (by simp only [Act.put, List.setIfInBounds_toArray, List.set_cons_zero, List.set_cons_succ]; rfl) ?_
  refine wpOrd_to (by rfl) (undef) (w3.setCells L.p 4 (lossC (.slice (some ⟨g, 0, none⟩) ks.length ks.length) torn off)) (fun W => Blk W g0 (lossC v torn off) 38) (L3.fx F4 hpg) (fun _ h => h) (OpTo.storeMid 38 (.tmp 32) (.tmp 30) rfl L.p 4 (lossC (.slice (some ⟨g, 0, none⟩) ks.length ks.length) torn off) rfl rfl th3 (info38 _ _ _) (lossC_oneA _ _ _ _ _)) (by simp only [Act.put, List.setIfInBounds_toArray, List.set_cons_zero, List.set_cons_succ]; rfl) ?_
  intro W hW
  rw [hW]
  clear hW W
  have F5 : Fx (One L.p) w (w3.setCells L.p 4 (lossC (.slice (some ⟨g, 0, none⟩) ks.length ks.length) torn off)) := (((Fx.of_below BE.out).and F2).and (Fx.of_below be3)).and F4
  have K4 := K3.fx F4 (by have := D2.lt; show ¬ g = L.p; omega)
  have L4 := L3.fx F4 hpg
  have V4 : Has64 (w3.setCells L.p 4 (lossC (.slice (some ⟨g, 0, none⟩) ks.length ks.length) torn off)) v ks := (V2.fx (Fx.of_below (S := fun _ => False) be3) (fun _ _ h => h)).fx F4 hvn
  have hgl : g < (w3.setCells L.p 4 (lossC (.slice (some ⟨g, 0, none⟩) ks.length ks.length) torn off)).heap.size := K4.lt
  have hw0g : w0.heap.size ≤ g := by have := F2.size; omega
  have hwg : w.heap.size ≤ g := by have := BE.out.size; have := F2.size; omega
  have hvg : ∀ k, v.ownBlock = some k → k < g ∨ ks = [] := fun k hk => by
    rcases V2 with ⟨rfl, e⟩ | ⟨ad, cap, rfl, h2, h3⟩
    · exact .inr e
    · cases ks with
      | nil => exact .inr rfl
      | cons u r =>
        left
        have := cell_lt (h3 0 u rfl)
        simp [Value.ownBlock] at hk
        rw [add_block] at this
        omega
  obtain ⟨w4, hw4⟩ : ∃ w4, w3.setCells L.p 4 (lossC (.slice (some ⟨g, 0, none⟩) ks.length ks.length) torn off) = w4 := ⟨_, rfl⟩
  rw [hw4] at D4 F5 K4 L4 V4 hgl ⊢
  clear D2 F2 L2 V2 hmk K3 be3 hg3 L3 D3 F4 th3 hw4 hw3 hwd hw2 hg hlen
  go_upto_region 10 with fail
  have bd : Below w4.heap.size w4 { w4 with drawn := w4.drawn + 1 } := below_drawn w4
  replace D4 := D4.on bd
  replace L4 := L4.on bd
  replace F5 := F5.and (Fx.of_below bd)
  replace V4 := V4.fx (Fx.of_below (S := fun _ => False) bd) (fun _ _ h => h)
  replace K4 := K4.on bd
  replace hgl := K4.lt
  clear bd
  refine reg_ord [(0, false), (1, false), (2, false), (3, false), (4, false), (5, false), (6, false), (7, true)] (fun W => Blk W g0 (lossC v torn off) 38 ∧ Blk W L.p (dvC L.gi D.n L.vp L.gn step (.slice (some ⟨g, 0, none⟩) ks.length ks.length) torn off D.down D.calls) 75) (by kernel_rfl) rfl (by kernel_rfl) (⟨L4, D4⟩) ?_
  simp only [ordOps, List.getD_cons_zero, List.getD_cons_succ]
  obtain ⟨wd, hwd⟩ : ∃ wd, { w4 with drawn := w4.drawn + 1 } = wd := ⟨_, rfl⟩
  rw [hwd] at D4 F5 K4 L4 V4 hgl ⊢
  have K6 : Blk (wd.setCells g 0 (ks.map wv)) g (ks.map wv) 39 := by
    have := Blk.setCells (ks.map wv) 0 wd _ K4 (by simp)
    simpa using this
  have F6 : Fx (One g) wd (wd.setCells g 0 (ks.map wv)) := Fx.setCells (S := One g) g rfl _ _ _
  have hcp : (Builtin.copy_ #[36, 36] 3 #[.slice (some ⟨g, 0, none⟩) ks.length ks.length, v]).run Try.prog wd = .ok (.int .i64 (ks.length : Int)) (wd.setCells g 0 (ks.map wv)) := by
    rcases V4 with ⟨rfl, rfl⟩ | ⟨ad, cap, rfl, h2, h3⟩
    · have := run_copy_none (P := Try.prog) wd 36 36 3 39 (some ⟨g, 0, none⟩) none 0 0 0 0 Try.underlying36 info39s (by simp)
      simpa [goInt, World.setCells] using this
    · have := run_copy_cells (P := Try.prog) wd 36 36 3 39 g 0 ks.length ks.length ad ks.length cap (ks.map wv) Try.underlying36 info39s (by simp)
        (fun j v hj => by
          rw [List.getElem?_map, Option.map_eq_some_iff] at hj
          obtain ⟨u, hu, rfl⟩ := hj
          exact h3 j u hu)
        (fun j hj => by
          rw [Nat.zero_add, K4.cell, List.getElem?_eq_getElem (by simpa using hj)]; rfl) (fun j _ => K4.frozen _) (fun x hx => by
          obtain ⟨u, _, rfl⟩ := List.mem_map.1 hx
          rfl)
      simpa [goInt] using this
  have hgp : ¬ L.p = g := by have := H.out.dev.lt; omega
  have hg0g : ¬ g0 = g := by have := B0.out.lt; omega
  have D7 := D4.fx F6 hgp
  have HS7 : ∀ W, W = wd.setCells g 0 (ks.map wv) → Blk W g0 (lossC v torn off) 38 ∧ Blk W L.p (dvC L.gi D.n L.vp L.gn step (.slice (some ⟨g, 0, none⟩) ks.length ks.length) torn off D.down D.calls) 75 := fun W hW => by rw [hW]; exact ⟨L4.fx F6 hg0g, D7⟩
  refine wpOrd_val (.pointer (some ⟨L.p, 0, none⟩)) (uvV (by rfl) (Op.move (Operand.tmp 0)) rfl (.pointer (some ⟨L.p, 0, none⟩)) (fun o' ho W hW => by go_simp)) (by simp only [Act.put, List.setIfInBounds_toArray, List.set_cons_zero, List.set_cons_succ]; rfl) ?_
  refine wpOrd_val (.pointer (some ⟨L.p, 0, none⟩)) (uvV (by rfl) (Op.nilCheck (Operand.tmp 33)) rfl (.pointer (some ⟨L.p, 0, none⟩)) (fun o' ho W hW => by go_simp)) (by simp only [Act.put, List.setIfInBounds_toArray, List.set_cons_zero, List.set_cons_succ]; rfl) ?_
  refine wpOrd_val (.pointer (some ⟨L.p, 4, none⟩)) (uvV (by rfl) (Op.fieldAddr 75 (Operand.tmp 34) 4) rfl (.pointer (some ⟨L.p, 4, none⟩)) (fun o' ho W hW => by go_simp)) (by simp only [Act.put, List.setIfInBounds_toArray, List.set_cons_zero, List.set_cons_succ]; rfl) ?_
  refine wpOrd_val (.pointer (some ⟨L.p, 4, none⟩)) (uvV (by rfl) (Op.fieldAddr 38 (Operand.tmp 35) 0) rfl (.pointer (some ⟨L.p, 4, none⟩)) (fun o' ho W hW => by go_simp)) (by simp only [Act.put, List.setIfInBounds_toArray, List.set_cons_zero, List.set_cons_succ]; rfl) ?_
  refine wpOrd_val (.slice (some ⟨g, 0, none⟩) ks.length ks.length) (uvV (by rfl) (Op.load 36 (Operand.tmp 36)) rfl (.slice (some ⟨g, 0, none⟩) ks.length ks.length) (fun o' ho W hW => by have hc : W.cell? ⟨L.p, 4, none⟩ = some (.slice (some ⟨g, 0, none⟩) ks.length ks.length) := (Blk.cell hW.2 4).trans rfl; go_simp)) (by simp only [Act.put, List.setIfInBounds_toArray, List.set_cons_zero, List.set_cons_succ]; rfl) ?_
  refine wpOrd_val (.pointer (some ⟨g0, 0, none⟩)) (uvV (by rfl) (Op.fieldAddr 38 (Operand.tmp 5) 0) rfl (.pointer (some ⟨g0, 0, none⟩)) (fun o' ho W hW => by go_simp)) (by simp only [Act.put, List.setIfInBounds_toArray, List.set_cons_zero, List.set_cons_succ]; rfl) ?_
  refine wpOrd_val (v) (uvV (by rfl) (Op.load 36 (Operand.tmp 38)) rfl (v) (fun o' ho W hW => by have hc : W.cell? ⟨g0, 0, none⟩ = some (v) := (Blk.cell hW.1 0).trans rfl; go_simp)) (by simp only [Act.put, List.setIfInBounds_toArray, List.set_cons_zero, List.set_cons_succ]; rfl) ?_
  refine wpOrd_to (by rfl) (.int .i64 (ks.length : Int)) (wd.setCells g 0 (ks.map wv)) (fun W => W = wd.setCells g 0 (ks.map wv)) (rfl) (HS7) (OpTo.copy 36 36 (.tmp 37) (.tmp 39) rfl _ _ _ rfl rfl hcp) (by simp only [Act.put, List.setIfInBounds_toArray, List.set_cons_zero, List.set_cons_succ]; rfl) ?_
  intro W hW
  rw [hW]
  clear hW W
  have hsz : g < (wd.setCells g 0 (ks.map wv)).heap.size := K6.lt
  have F7 : Fx (fun k => k = L.p ∨ k = g) w (wd.setCells g 0 (ks.map wv)) := (F5.mono (fun i _ h => .inl h)).and (F6.mono (fun i _ h => .inr h))
  obtain ⟨w6, hw6⟩ : ∃ w6, wd.setCells g 0 (ks.map wv) = w6 := ⟨_, rfl⟩
  rw [hw6] at K6 D7 hsz F7 ⊢
  clear F6 hcp HS7 D4 F5 K4 L4 V4 hgl
  have F8 : Fx (One L.p) w w6 := F7.mono (fun i hi h => by
    rcases h with h | h
    · exact h
    · omega)
  have KK := hide K6
  have DD := hide D7
  have FF := hide F8
  clear K6 D7 F8 F7
  go_wp2
  go_ret
  refine ⟨rfl, armL L (.slice (some ⟨g, 0, none⟩) ks.length ks.length), ⟨FF.out.mono (fun i _ h => .inl h), fun k hk => ?_, rfl⟩, H.out.armed g hwg hsz FF.out step ks torn off DD.out KK.out⟩
  rcases hk with h | h | h | h | h | h
  · exact .inl (.inl h)
  · exact .inl (.inr (.inl h))
  · exact .inl (.inr (.inr (.inl h)))
  · exact .inl (.inr (.inr (.inr (.inl h))))
  · right
    have : g = k := by simpa [armL, Value.ownBlock] using h
    omega
  · exact .inl (.inr (.inr (.inr (.inr (.inr h)))))
set_option maxRecDepth 100000 in
set_option maxHeartbeats 1000000 in
theorem arm_zero {w : World} {L : Lay} {D : Dv} (h : Dev w L D) (hd : D.down = false) (v : Value) (torn off : Int) :
    Calls Try.prog 19 #[.pointer (some ⟨L.p, 0, none⟩), .int .i64 0, .agg (lossC v torn off).toArray] w fun e w' => e = .returned (.int .i64 0) ∧ ∃ L', Turn w w' L L' ∧ Dev w' L' (armD D 0 [] 0 0) := by
  obtain ⟨g0, hg0⟩ : ∃ g, w.heap.size = g := ⟨_, rfl⟩
  have be0 : Below w.heap.size w (w.alloc (.cells (lossC v torn off).toArray 38)) := below_new w _
  have h0 := h.below be0
  obtain ⟨w0, hw0⟩ : ∃ w0, w.alloc (.cells (lossC v torn off).toArray 38) = w0 := ⟨_, rfl⟩
  rw [hw0] at be0 h0
  have hc := h0.c7
  rw [hd] at hc
  have hda := hide (disarm_any h0.dev)
  have H0 := hide h0
  have BE := hide be0
  clear h0 h be0
  go_enter Try.func19, Try.ntmps19
  go_wp2_with (first
    | (refine wpList_boxAt rfl 38 (.tmp 2) rfl (lossC v torn off) rfl g0 hg0 ?_; rw [hw0])
    | (go_at_call 41; refine hda.out.mono ?_; rintro e w1 ⟨rfl, hp, hq⟩; have F1 := hide hp; have D1 := hide hq; clear hp hq hc)
    | fail)
  go_ret
  refine ⟨rfl, unkL L, ⟨((Fx.of_below BE.out).and F1.out).mono (fun i _ h => .inl h), fun k h => .inl (unk_own L k h), rfl⟩, H0.out.disarmed F1.out D.down D1.out⟩
theorem arm_no {w : World} {L : Lay} {D : Dv} (h : Dev w L D) (hd : D.down = true) (step : Int) (v : Value) (torn off : Int) :
    Calls Try.prog 19 #[.pointer (some ⟨L.p, 0, none⟩), .int .i64 step, .agg (lossC v torn off).toArray] w fun e w' => e = .returned (.int .i64 80) ∧ Turn w w' L L ∧ Dev w' L D := by
  obtain ⟨g0, hg0⟩ : ∃ g, w.heap.size = g := ⟨_, rfl⟩
  have be0 : Below w.heap.size w (w.alloc (.cells (lossC v torn off).toArray 38)) := below_new w _
  have h0 := h.below be0
  obtain ⟨w0, hw0⟩ : ∃ w0, w.alloc (.cells (lossC v torn off).toArray 38) = w0 := ⟨_, rfl⟩
  rw [hw0] at be0 h0
  have hc := h0.c7
  rw [hd] at hc
  have H := hide h0
  have BE := hide be0
  clear h h0 be0
  go_enter Try.func19, Try.ntmps19
  go_wp2_with (first
    | (refine wpList_boxAt rfl 38 (.tmp 2) rfl (lossC v torn off) rfl g0 hg0 ?_; rw [hw0])
    | fail)
  go_ret
  exact ⟨rfl, ⟨Fx.of_below BE.out, fun k h => .inl h, rfl⟩, H.out⟩
end Go.Proofs.Ythfcabhelldokaa
