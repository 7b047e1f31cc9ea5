import Derived.Test.YtmbgeojjklboeaaGreatDoorApxG
set_option linter.unusedVariables false
set_option linter.unusedSimpArgs false
namespace Go.Proofs.YtmbgeojjklboeaaGreatDoor
open Go.RowKit

section
variable {P : Program} {ops : Array Oper} {Q : Exit → Act → World → Prop} {S : World → Prop}
theorem uvV {o : Oper} {a : Act} (hw : Region.wanted o (yielded ops a.tmps) = true) (op : Op) (ho : o.op = op) (v : Value) (hrun : ∀ o' : Oper, o'.op = op → ∀ W, S W → (execOp a.eval o').run P W = .ok (.value v) W) : UniV P ops S o v a := .inl ⟨hw, hrun o ho⟩
theorem wpSteps_cons {K : Act → (World → Prop) → Prop} {o : Oper} {r : List Oper} {a a' : Act} {w : World} (hg : o.guard = none) (v : Value) (w1 : World) (hS : S w1) (h : OpTo P o a w v (fun W => W = w1)) (ha : a.put o.dst v = a')
    (k : wpSteps P S K r a' (fun W => W = w1)) : wpSteps P S K (o :: r) a (fun W => W = w) := by
  refine ⟨hg, v, fun W => W = w1, fun W hW => by rw [hW]; exact hS, fun W hW => by rw [hW]; exact h, ?_⟩
  rw [ha]; exact k
theorem OpTo.build2 {o : Oper} {a : Act} {w : World} (t : TypeId) (x y : Operand) (ho : o.op = .build t #[(0, x), (1, y)]) (u u' v : Value) (hx : a.eval x = u) (hy : a.eval y = u') (h : (Instr.build t #[(0, u), (1, u')]).run P w = .ok v w) : OpTo P o a w v (fun W => W = w) := by
  refine .inl ⟨w, ?_, rfl⟩
  unfold execOp
  simp only [ho, List.map_toArray, List.map_cons, List.map_nil, hx, hy, Sem.run_bind, h, Result.andThen_ok, Sem.run_pure]
theorem OpTo.bslice {o : Oper} {a : Act} {w w1 : World} (t : TypeId) (n : Nat) (x : Operand) (ho : o.op = .buildSlice t n #[(0, x)]) (u v : Value) (hx : a.eval x = u) (h : (Instr.buildSlice t n #[(0, u)]).run P w = .ok v w1) : OpTo P o a w v (fun W => W = w1) := by
  refine .inl ⟨w1, ?_, rfl⟩
  unfold execOp
  simp only [ho, List.map_toArray, List.map_cons, List.map_nil, hx, Sem.run_bind, h, Result.andThen_ok, Sem.run_pure]
theorem OpTo.app {o : Oper} {a : Act} {w w1 : World} (t : TypeId) (x y : Operand) (ho : o.op = .call { callee := .builtin .append, args := #[x, y], argTypes := #[t, t] }) (u u' v : Value) (hx : a.eval x = u) (hy : a.eval y = u') (h : (Builtin.append_ #[t, t] o.type #[u, u']).run P w = .ok v w1) : OpTo P o a w v (fun W => W = w1) := by
  refine .inl ⟨w1, ?_, rfl⟩
  simp [execOp, ho, resolve, invoke, builtin, hx, hy, h, Result.andThen]
theorem OpTo.call {o : Oper} {a : Act} {w : World} {C' : World → Prop} (f : FuncId) (xs : List Operand) (ts : Array TypeId) (ho : o.op = .call { callee := .value (.func f), args := xs.toArray, argTypes := ts }) (args : List Value) (v : Value)
    (hargs : xs.map a.eval = args) (hrun : ∀ (args : Array Value) (W : World), (callFunc f args).run P W = .ok (.enter f args) W)
    (hc : Calls P f args.toArray w (fun e w' => e = .returned v ∧ C' w')) : OpTo P o a w v C' := by
  refine .inr (.inr ⟨f, args.toArray, ?_, hc⟩)
  have e : (execOp a.eval o).run P w = (callFunc f (xs.toArray.map a.eval)).run P w := by
    simp [execOp, ho, resolve, Deferred.ofValue, invoke, Act.eval]
  rw [e, hrun]
  congr 2
  rw [← hargs]
  simp
end
theorem bs30 (i g : Nat) (W : World) : (Instr.buildSlice 89 1 #[(0, .agg (pwC i (bV g)).toArray)]).run Tryz.prog W = .ok (.slice (some ⟨W.heap.size, 0, none⟩) 1 1) (W.alloc (.cells (pwC i (bV g)).toArray 121)) := by kernel_rfl
theorem bd78 (i g : Nat) (W : World) : (Instr.build 121 #[(0, .int .i64 (i : Int)), (1, bV g)]).run Tryz.prog W = .ok (.agg (pwC i (bV g)).toArray) W := by kernel_rfl
theorem Tryz.info92 : (Tryz.prog.info? 121).map (fun i => (i.zero, i.size, i.bytes)) = some (some (.agg #[Value.int .i64 0, .slice none 0 0]), 2, 32) := by kernel_rfl
/-- 'append(pending, one)'. -/
theorem run_app30 (w : World) (v : Value) (n : Nat) (xs : List Value) (hown : w.ownsRow 0 121 2 v n xs) (g s gb : Nat) (hB : Blk w g (pwC s (bV gb)) 121) (hn : n ≤ 1000000) (ty : TypeId) :
    ∃ v' w', (Builtin.append_ #[89, 89] ty #[v, .slice (some ⟨g, 0, none⟩) 1 1]).run Tryz.prog w = .ok v' w' ∧ w'.ownsRow 0 121 2 v' (n + 1) (xs ++ pwC s (bV gb)) ∧ w.grownBy w' v.ownBlock ∧ Nw w v v' := by
  obtain ⟨i0, hi, hz0, hz1, hz2⟩ := info_parts Tryz.info92
  exact run_appx w 89 ty 121 i0 _ 2 32 Tryz.underlying89 hi hz0 hz1 hz2 (by simp [Value.cells]) (by decide) v n xs hown ⟨g, 0, none⟩ 1 1 (pwC s (bV gb)) rfl
    (fun j u hu => by rw [add_plain, hB.cell]; exact hu) (fun u hu => by
      simp only [pwC, List.mem_cons, List.not_mem_nil, or_false] at hu
      rcases hu with rfl | rfl <;> rfl) (by omega) (by omega)
theorem own_shape {w : World} {e size : Nat} {v : Value} {n : Nat} {xs : List Value} (h : w.ownsRow 0 e size v n xs) : ∃ ao ln cp, v = Value.slice ao ln cp := by
  obtain ⟨_, ⟨rfl, _⟩ | ⟨g, cap, cur, rfl, _⟩⟩ := h
  · exact ⟨_, _, _, rfl⟩
  · exact ⟨_, _, _, rfl⟩
/-- A pending write more. -/
def pushD (D : Dv) (i : Nat) (b : List UInt8) : Dv := { D with pen := D.pen ++ [(i, b)] }
set_option maxRecDepth 100000 in
set_option maxHeartbeats 4000000 in
theorem write_ok {w : World} {L : Lay} {D : Dv} (h : Dev w L D) (hd : D.down = false) (i : Nat) (hi : i < D.n) (vb : Value) (b : List UInt8) (hb : b.length = 512) (hv : Has w vb b) (few : D.pen.length < 1000000) (hcal : D.calls < 1000000000000) (hleft : D.left < 9223372036854775808) :
    Calls Tryz.prog 79 #[.pointer (some ⟨L.p, 0, none⟩), .int .i64 (i : Int), vb] w fun e w' => e = .returned (.int .i64 (changedE D)) ∧ ∃ L', Turn w w' L L' ∧ Dev w' L' (changedD (pushD D i b)) := by
  have hrf := refusal_any h (i : Int)
  rw [show refE D (i : Int) = 0 by unfold refE; rw [hd, if_neg (by decide), if_neg (by omega)]] at hrf
  have HRF := hide hrf
  have hlen := hv.len
  rw [hb] at hlen
  have H := hide h
  have HV := hide hv
  clear h hv hrf
  go_enter Tryz.func79, Tryz.ntmps79
  go_upto_region 6 with (first
    | (go_at_call 77; refine HRF.out.mono ?_; rintro e wz ⟨rfl, hz⟩; rw [hz]; clear hz wz)
    | fail)
  obtain ⟨w0, hw0⟩ : ∃ w0, { w with drawn := w.drawn + 1 } = w0 := ⟨_, rfl⟩
  have be0 : Below w.heap.size w w0 := by rw [← hw0]; exact below_drawn w
  have h0 : Dev w0 L D := H.out.below be0
  have hc1 : w0.cell? ⟨L.p, 1, none⟩ = some L.vp := h0.c1
  obtain ⟨g, hg⟩ : ∃ g, w0.heap.size = g := ⟨_, rfl⟩
  have hcp := copied_any vb b (by omega) w0 (HV.out.below be0)
  rw [hg, hb] at hcp
  have be1 : Below w0.heap.size w0 (w0.alloc (.cells (b.map byt).toArray 5)) := below_new w0 _
  have bB : Blk (w0.alloc (.cells (b.map byt).toArray 5)) g (b.map byt) 5 := Blk.newAt hg
  obtain ⟨w1, hw1⟩ : ∃ w1, w0.alloc (.cells (b.map byt).toArray 5) = w1 := ⟨_, rfl⟩
  have sz1 : w1.heap.size = g + 1 := by rw [← hw1]; simp [hg]
  rw [hw1] at hcp be1 bB
  have hbs := bs30 i g w1
  rw [sz1] at hbs
  have be2 : Below w1.heap.size w1 (w1.alloc (.cells (pwC i (bV g)).toArray 121)) := below_new w1 _
  have bS : Blk (w1.alloc (.cells (pwC i (bV g)).toArray 121)) (g + 1) (pwC i (bV g)) 121 := Blk.newAt sz1
  obtain ⟨w2, hw2⟩ : ∃ w2, w1.alloc (.cells (pwC i (bV g)).toArray 121) = w2 := ⟨_, rfl⟩
  have sz2 : w2.heap.size = g + 2 := by rw [← hw2]; simp [sz1]
  rw [hw2] at hbs be2 bS
  have h2 : Dev w2 L D := (h0.below be1).below be2
  obtain ⟨v3, w3, hap, own3, gr3, nw3⟩ := run_app30 w2 L.vp D.pen.length (penC L.gs D.pen) h2.pen (g + 1) i g bS (by omega) 89
  obtain ⟨ao, ln, cp, rfl⟩ : ∃ ao ln cp, v3 = Value.slice ao ln cp := own_shape own3
  have f3 := grown_fx gr3
  have bB2 : Blk w2 g (b.map byt) 5 := bB.on be2
  have hvg : L.vp.ownBlock ≠ some g := fun e => by have := ownsRow_lt h0.pen g e; omega
  have bB3 : Blk w3 g (b.map byt) 5 := bB2.fx f3 hvg
  have hp3 : Blk w3 L.p (dvC L.gi D.n L.vp L.gn D.left L.vk D.torn D.off D.down D.calls) 102 := h2.dev.fx f3 (fun e => (h2.vpn L.p e).1 rfl)
  have HPEN := hide own3
  refine reg_chain (fun W => W.cell? ⟨L.p, 1, none⟩ = some L.vp) 7 4 3 (by kernel_rfl) rfl (by kernel_rfl) (by rw [hw0]; exact hc1) ?_
  rw [hw0]
  simp only [List.take_succ_cons, List.take_zero]
  refine wpLexV_cons (.pointer (some ⟨L.p, 0, none⟩)) (uvV (by rfl) (Op.move (Operand.tmp 0)) rfl (.pointer (some ⟨L.p, 0, none⟩)) (fun o' ho W hW => by go_simp)) (by simp only [Act.put, List.setIfInBounds_toArray, List.set_cons_zero, List.set_cons_succ]; rfl) ?_; refine wpLexV_cons (.pointer (some ⟨L.p, 0, none⟩)) (uvV (by rfl) (Op.move (Operand.tmp 0)) rfl (.pointer (some ⟨L.p, 0, none⟩)) (fun o' ho W hW => by go_simp)) (by simp only [Act.put, List.setIfInBounds_toArray, List.set_cons_zero, List.set_cons_succ]; rfl) ?_; refine wpLexV_cons (.pointer (some ⟨L.p, 0, none⟩)) (uvV (by rfl) (Op.nilCheck (Operand.tmp 18)) rfl (.pointer (some ⟨L.p, 0, none⟩)) (fun o' ho W hW => by go_simp)) (by simp only [Act.put, List.setIfInBounds_toArray, List.set_cons_zero, List.set_cons_succ]; rfl) ?_; refine wpLexV_cons (.pointer (some ⟨L.p, 1, none⟩)) (uvV (by rfl) (Op.fieldAddr 102 (Operand.tmp 19) 1) rfl (.pointer (some ⟨L.p, 1, none⟩)) (fun o' ho W hW => by go_simp)) (by simp only [Act.put, List.setIfInBounds_toArray, List.set_cons_zero, List.set_cons_succ]; rfl) ?_; refine wpLexV_cons (L.vp) (uvV (by rfl) (Op.load 89 (Operand.tmp 20)) rfl (L.vp) (fun o' ho W hW => by have hc : W.cell? ⟨L.p, 1, none⟩ = some L.vp := hW; go_simp)) (by simp only [Act.put, List.setIfInBounds_toArray, List.set_cons_zero, List.set_cons_succ]; rfl) ?_; refine wpLexV_cons (.int .i64 (i : Int)) (uvV (by rfl) (Op.move (Operand.tmp 1)) rfl (.int .i64 (i : Int)) (fun o' ho W hW => by go_simp)) (by simp only [Act.put, List.setIfInBounds_toArray, List.set_cons_zero, List.set_cons_succ]; rfl) ?_; refine wpLexV_cons (vb) (uvV (by rfl) (Op.move (Operand.tmp 2)) rfl (vb) (fun o' ho W hW => by go_simp)) (by simp only [Act.put, List.setIfInBounds_toArray, List.set_cons_zero, List.set_cons_succ]; rfl) ?_
  simp only [List.drop_succ_cons, List.drop_zero, List.take_succ_cons, List.take_zero]
  refine wpSteps_cons rfl (bV g) w1 ((be1.cell (cell_lt hc1)).trans hc1) (OpTo.call 51 [Operand.tmp 23] #[49] rfl [vb] (bV g) rfl enter51 hcp) (by simp only [Act.put, List.setIfInBounds_toArray, List.set_cons_zero, List.set_cons_succ]; rfl) ?_; refine wpSteps_cons rfl (.agg (pwC i (bV g)).toArray) w1 ((be1.cell (cell_lt hc1)).trans hc1) (OpTo.build2 121 (.tmp 22) (.tmp 24) rfl (.int .i64 (i : Int)) (bV g) _ rfl rfl (bd78 i g w1)) (by simp only [Act.put, List.setIfInBounds_toArray, List.set_cons_zero, List.set_cons_succ]; rfl) ?_; refine wpSteps_cons rfl (.slice (some ⟨g + 1, 0, none⟩) 1 1) w2 h2.c1 (OpTo.bslice 89 1 (.tmp 25) rfl _ _ rfl hbs) (by simp only [Act.put, List.setIfInBounds_toArray, List.set_cons_zero, List.set_cons_succ]; rfl) ?_; refine wpSteps_cons rfl (Value.slice ao ln cp) w3 ((hp3.cell 1).trans rfl) (OpTo.app 89 (.tmp 21) (.tmp 26) rfl L.vp _ _ rfl rfl hap) (by simp only [Act.put, List.setIfInBounds_toArray, List.set_cons_zero, List.set_cons_succ]; rfl) ?_
  intro W hW
  rw [hW]
  clear hW W
  try simp only [Nat.reduceAdd, List.drop_succ_cons, List.drop_zero]
  have hold := (hp3.cell 1).trans (show _ = some L.vp from rfl)
  have hfz := hp3.frozen 1
  have hp4 : Blk (w3.setCell ⟨L.p, 1, none⟩ (Value.slice ao ln cp)) L.p (dvC L.gi D.n (Value.slice ao ln cp) L.gn D.left L.vk D.torn D.off D.down D.calls) 102 := hp3.set 1 _
  have f4 : Fx (One L.p) w3 (w3.setCell ⟨L.p, 1, none⟩ (Value.slice ao ln cp)) := Fx.setCell _ _ _ _ rfl
  obtain ⟨w4, hw4⟩ : ∃ w4, w3.setCell ⟨L.p, 1, none⟩ (Value.slice ao ln cp) = w4 := ⟨_, rfl⟩
  rw [hw4] at hp4 f4
  have FA : Fx (fun k => k = L.p ∨ L.vp.ownBlock = some k) w0 w4 := ((Fx.of_below (be1.trans (be2.mono be1.size))).and (f3.mono (fun k _ h => .inr h))).and (f4.mono (fun k _ h => .inl h))
  have hI4 : Blk w4 L.gi (D.img.map byt) 5 := h0.img.fx FA (fun e => e.elim (fun e => h0.pi (Eq.symm e)) (fun e => (h0.vpn L.gi e).2.1 rfl))
  have hN4 : Blk w4 L.gn (nwC D.n (nw D.pen)) 3 := h0.new.fx FA (fun e => e.elim (fun e => h0.pn (Eq.symm e)) (fun e => (h0.vpn L.gn e).2.2.1 rfl))
  have hB4 : Blk w4 g (b.map byt) 5 := bB3.fx f4 (fun e => by have h1 := h0.dev.lt; have h2 : g = L.p := e; omega)
  have nv : ∀ k, (Value.slice ao ln cp).ownBlock = some k → L.vp.ownBlock = some k ∨ g + 2 ≤ k := fun k hk => by rw [← sz2]; exact nw3 k hk
  have hP4 : w4.ownsRow 0 121 2 (Value.slice ao ln cp) (D.pen.length + 1) (penC L.gs D.pen ++ pwC i (bV g)) := ownsRow_fx HPEN.out f4 (fun k hk e => by
    have e1 : k = L.p := e
    rcases nv k hk with h1 | h1
    · exact (h0.vpn k h1).1 e1
    · have := h0.dev.lt; omega)
  have hbys4 : ∀ (k gg : Nat) (x : Nat × List UInt8), L.gs[k]? = some gg → D.pen[k]? = some x → Blk w4 gg (x.2.map byt) 5 := fun k gg x e1 e2 => (h0.bys k gg x e1 e2).fx FA (fun e => e.elim (fun e => (h0.gsn gg (List.mem_of_getElem? e1)).1 e) (fun e => (h0.vpn gg e).2.2.2.2 (List.mem_of_getElem? e1)))
  have hK4 : Has64 w4 L.vk D.keep := h0.kp.fx FA (fun k hk e => e.elim (fun e => (h0.vkn k hk).1 e) (fun e => (h0.vpn k e).2.2.2.1 hk))
  have HF := hide FA
  have HI4 := hide hI4
  have HN4 := hide hN4
  have HB4 := hide hB4
  have HP4 := hide hP4
  have HY4 := hide hbys4
  have HK4 := hide hK4
  have HD4 := hide hp4
  have H0 := hide h0
  have NV := hide nv
  have BE0 := hide be0
  have HG := hide hg
  clear FA hI4 hN4 hB4 hP4 hbys4 hK4 hp4 f4 h0 nv nw3 own3 gr3 f3 hap hp3 bB3 hvg bB2 h2 bS be2 hbs hcp be1 bB hw1 hw2 sz1 HPEN be0 hw0 hc1
  go_upto_region 7 with fail
  have C2 : ∀ W, Below w4.heap.size w4 W → W.cell? ⟨L.p, 2, none⟩ = some (.slice (some ⟨L.gn, 0, none⟩) D.n D.n) := fun W hW => ((HD4.out.on hW).cell 2).trans rfl
  have C1 : ∀ W, Below w4.heap.size w4 W → W.cell? ⟨L.p, 1, none⟩ = some (Value.slice ao ln cp) := fun W hW => ((HD4.out.on hW).cell 1).trans rfl
  have hl3 := pen_len HP4.out
  obtain ⟨m, hm⟩ : ∃ m, D.pen.length + 1 = m := ⟨_, rfl⟩
  rw [hm] at hl3
  refine reg_rest 10 2 (by kernel_rfl) rfl (by kernel_rfl) ?_
  simp only [List.take_succ_cons, List.take_zero]
  refine wpLex_cons2 _ (uni_val (by rfl) (Op.move (Operand.tmp 0)) rfl (.pointer (some ⟨L.p, 0, none⟩)) (fun o' ho W hW => by go_simp)) (by simp only [Act.put, List.setIfInBounds_toArray, List.set_cons_zero, List.set_cons_succ]; rfl) ?_; refine wpLex_cons2 _ (uni_val (by rfl) (Op.nilCheck (Operand.tmp 30)) rfl (.pointer (some ⟨L.p, 0, none⟩)) (fun o' ho W hW => by go_simp)) (by simp only [Act.put, List.setIfInBounds_toArray, List.set_cons_zero, List.set_cons_succ]; rfl) ?_; refine wpLex_cons2 _ (uni_val (by rfl) (Op.fieldAddr 102 (Operand.tmp 31) 2) rfl (.pointer (some ⟨L.p, 2, none⟩)) (fun o' ho W hW => by go_simp)) (by simp only [Act.put, List.setIfInBounds_toArray, List.set_cons_zero, List.set_cons_succ]; rfl) ?_; refine wpLex_cons2 _ (uni_val (by rfl) (Op.load 100 (Operand.tmp 32)) rfl (.slice (some ⟨L.gn, 0, none⟩) D.n D.n) (fun o' ho W hW => by have hc := C2 W hW; go_simp)) (by simp only [Act.put, List.setIfInBounds_toArray, List.set_cons_zero, List.set_cons_succ]; rfl) ?_; refine wpLex_cons2 _ (uni_val (by rfl) (Op.move (Operand.tmp 1)) rfl (.int .i64 (i : Int)) (fun o' ho W hW => by go_simp)) (by simp only [Act.put, List.setIfInBounds_toArray, List.set_cons_zero, List.set_cons_succ]; rfl) ?_; refine wpLex_cons2 _ (uni_val (by rfl) (Op.move (Operand.tmp 0)) rfl (.pointer (some ⟨L.p, 0, none⟩)) (fun o' ho W hW => by go_simp)) (by simp only [Act.put, List.setIfInBounds_toArray, List.set_cons_zero, List.set_cons_succ]; rfl) ?_; refine wpLex_cons2 _ (uni_val (by rfl) (Op.nilCheck (Operand.tmp 35)) rfl (.pointer (some ⟨L.p, 0, none⟩)) (fun o' ho W hW => by go_simp)) (by simp only [Act.put, List.setIfInBounds_toArray, List.set_cons_zero, List.set_cons_succ]; rfl) ?_; refine wpLex_cons2 _ (uni_val (by rfl) (Op.fieldAddr 102 (Operand.tmp 36) 1) rfl (.pointer (some ⟨L.p, 1, none⟩)) (fun o' ho W hW => by go_simp)) (by simp only [Act.put, List.setIfInBounds_toArray, List.set_cons_zero, List.set_cons_succ]; rfl) ?_; refine wpLex_cons2 _ (uni_val (by rfl) (Op.load 89 (Operand.tmp 37)) rfl ((Value.slice ao ln cp)) (fun o' ho W hW => by have hc := C1 W hW; go_simp)) (by simp only [Act.put, List.setIfInBounds_toArray, List.set_cons_zero, List.set_cons_succ]; rfl) ?_; refine wpLex_cons2 _ (uni_val (by rfl) (Op.call { callee := Callee.builtin Builtin.len, args := #[Operand.tmp 38], argTypes := #[89] }) rfl (.int .i64 (m : Int)) (fun o' ho W hW => by go_simp)) (by simp only [Act.put, List.setIfInBounds_toArray, List.set_cons_zero, List.set_cons_succ]; rfl) ?_
  intro W hW
  simp only [List.drop_succ_cons, List.drop_zero]
  have hixn := fun W => idx73 L.gn D.n i hi W
  have hnW := HN4.out.on hW
  have hfz := hnW.frozen i
  have hold := (hnW.cell i).trans (nwC_at D.n _ i hi)
  have B5 := hnW.set i (.int .i64 (m : Int))
  rw [nwC_set] at B5
  have f5 : Fx (One L.gn) w4 (W.setCell ⟨L.gn, i, none⟩ (.int .i64 (m : Int))) := (Fx.of_below hW).and (Fx.setCell _ _ _ _ rfl)
  obtain ⟨w5, hw5⟩ : ∃ w5, W.setCell ⟨L.gn, i, none⟩ (.int .i64 (m : Int)) = w5 := ⟨_, rfl⟩
  rw [hw5] at B5 f5
  obtain ⟨L5, hL5⟩ : ∃ L5, L5 = Lay.mk L.p L.gi L.gn (Value.slice ao ln cp) L.vk (L.gs ++ [g]) := ⟨_, rfl⟩
  have h5 : Dev w5 L5 (pushD D i b) := by
    rw [hL5]
    have gA : ∀ k, k ∈ L.gs ++ [g] → k ∈ L.gs ∨ k = g := fun k hk => by simpa using hk
    have hgp : g ≠ L.p ∧ g ≠ L.gi ∧ g ≠ L.gn := by have h1 := H0.out.dev.lt; have h2 := H0.out.img.lt; have h3 := H0.out.new.lt; have h4 := HG.out; refine ⟨?_, ?_, ?_⟩ <;> omega
    have s4 : w4.heap.size ≤ w5.heap.size := f5.size
    have s0 := HF.out.size
    refine { dev := HD4.out.fx f5 (fun e => H0.out.pn e), img := HI4.out.fx f5 (fun e => H0.out.inn e), new := ?_, pen := ?_, bys := ?_, gsl := ?_, kp := HK4.out.fx f5 (fun k hk e => (H0.out.vkn k hk).2.2.1 e), ok := ⟨H0.out.ok.n1, H0.out.ok.n2, H0.out.ok.len, ?_, ?_, H0.out.ok.cal⟩, pi := H0.out.pi, pn := H0.out.pn, inn := H0.out.inn, vpn := ?_, vkn := ?_, gsn := ?_ }
    · show Blk w5 L.gn (nwC D.n (nw (D.pen ++ [(i, b)]))) 3
      rw [show nw (D.pen ++ [(i, b)]) = fun j => if i = j then m else nw D.pen j from funext fun j => by rw [nw_snoc, hm]]
      exact B5
    · have e := ownsRow_fx HP4.out f5 (fun k hk e => by
        have e1 : k = L.gn := e
        rcases NV.out k hk with h1 | h1
        · exact (H0.out.vpn k h1).2.2.1 e1
        · have := H0.out.new.lt; have := HG.out; omega)
      show w5.ownsRow 0 121 2 (Value.slice ao ln cp) (D.pen ++ [(i, b)]).length (penC (L.gs ++ [g]) (D.pen ++ [(i, b)]))
      rw [penC_snoc _ _ _ _ H0.out.gsl, List.length_append]
      exact e
    · intro k gg x e1 e2
      have e1 : (L.gs ++ [g])[k]? = some gg := e1
      have e2 : (D.pen ++ [(i, b)])[k]? = some x := e2
      rcases Nat.lt_or_ge k L.gs.length with hk | hk
      · rw [List.getElem?_append_left hk] at e1
        rw [List.getElem?_append_left (by rw [← H0.out.gsl]; exact hk)] at e2
        exact (HY4.out k gg x e1 e2).fx f5 (fun e => (H0.out.gsn gg (List.mem_of_getElem? e1)).2.2.1 e)
      · rw [List.getElem?_append_right hk] at e1
        rw [List.getElem?_append_right (by rw [← H0.out.gsl]; exact hk), ← H0.out.gsl] at e2
        have hk0 : k - L.gs.length = 0 := by have := (List.getElem?_eq_some_iff.1 e1).1; simp at this; omega
        rw [hk0] at e1 e2
        simp at e1 e2
        subst e1 e2
        exact HB4.out.fx f5 (fun e => hgp.2.2 e)
    · show (L.gs ++ [g]).length = (D.pen ++ [(i, b)]).length
      rw [List.length_append, List.length_append, H0.out.gsl]; rfl
    · intro x hx
      have hx : x ∈ D.pen ++ [(i, b)] := hx
      rcases List.mem_append.1 hx with h | h
      · exact H0.out.ok.sec x h
      · simp at h; subst h; exact ⟨hi, hb⟩
    · show (D.pen ++ [(i, b)]).length ≤ 1000000
      rw [List.length_append]; simp; omega
    · intro k hk
      have hk : (Value.slice ao ln cp).ownBlock = some k := hk
      have t1 := H0.out.dev.lt; have t2 := H0.out.img.lt; have t3 := H0.out.new.lt; have t4 := HG.out
      rcases NV.out k hk with h1 | h1
      · obtain ⟨a1, a2, a3, a4, a5⟩ := H0.out.vpn k h1
        have a6 := ownsRow_lt H0.out.pen k h1
        refine ⟨a1, a2, a3, a4, fun h => ?_⟩
        rcases gA k h with h | h
        · exact a5 h
        · omega
      · refine ⟨by show k ≠ L.p; omega, by show k ≠ L.gi; omega, by show k ≠ L.gn; omega, fun e => ?_, fun h => ?_⟩
        · have := (H0.out.vkn k e).2.2.2; omega
        · rcases gA k h with h | h
          · have := (H0.out.gsn k h).2.2.2; omega
          · omega
    · intro k hk
      obtain ⟨a1, a2, a3, a4⟩ := H0.out.vkn k hk
      exact ⟨a1, a2, a3, by omega⟩
    · intro k hk
      rcases gA k hk with h | h
      · obtain ⟨a1, a2, a3, a4⟩ := H0.out.gsn k h
        exact ⟨a1, a2, a3, by omega⟩
      · subst h
        exact ⟨hgp.1, hgp.2.1, hgp.2.2, by have := HB4.out.lt; omega⟩
  have tn : Turn w w5 L L5 := by
    refine ⟨((Fx.of_below BE0.out).and (HF.out.mono (fun k _ h => h.elim (fun h => .inl h) (fun h => .inr (.inr (.inr (.inl h))))))).and (f5.mono (fun k _ h => .inr (.inr (.inl h)))), fun k hk => ?_, by rw [hL5]⟩
    have hs := BE0.out.size
    have h4 := HG.out
    rw [hL5] at hk
    rcases hk with h | h | h | h | h | h
    · exact .inl (.inl h)
    · exact .inl (.inr (.inl h))
    · exact .inl (.inr (.inr (.inl h)))
    · rcases NV.out k h with h1 | h1
      · exact .inl (.inr (.inr (.inr (.inl h1))))
      · exact .inr (by omega)
    · exact .inl (.inr (.inr (.inr (.inr (.inl h)))))
    · have h : k ∈ L.gs ++ [g] := h
      rcases List.mem_append.1 h with h | h
      · exact .inl (.inr (.inr (.inr (.inr (.inr h)))))
      · simp at h; exact .inr (by omega)
  have hch := hide (changed_any h5 hcal hleft)
  rw [show L5.p = L.p by rw [hL5]] at hch
  have TN := hide tn
  clear h5 tn B5 f5 hnW C1 C2 hW HD4 HI4 HN4 HB4 HP4 HY4 HK4 H0 NV HF BE0 HG hL5 hm hl3
  go_wp2_with (first
    | (go_at_call 87; refine hch.out.mono ?_; rintro e w6 ⟨rfl, hp, hq⟩; have T6 := hide hp; have D6 := hide hq; clear hp hq)
    | fail)
  go_ret
  exact ⟨rfl, _, TN.out.trans T6.out, D6.out⟩
end Go.Proofs.YtmbgeojjklboeaaGreatDoor
