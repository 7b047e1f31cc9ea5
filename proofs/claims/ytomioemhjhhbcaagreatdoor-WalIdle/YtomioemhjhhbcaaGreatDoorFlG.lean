import Derived.Test.YtomioemhjhhbcaaGreatDoorOz
import Derived.Recover
import Derived.Test.YtomioemhjhhbcaaGreatDoorWr
set_option linter.unusedVariables false
set_option linter.unusedSimpArgs false
namespace Go.Proofs.YtomioemhjhhbcaaGreatDoor
open Go.RowKit

/-- A function that defers is entered. -/
theorem calls_of_argsD {P : Program} {f : FuncId} {fn : Func} {c : Code} {w : World} {R : Ending → World → Prop} (l : List Value) (hf : P.funcs[f]? = some fn) (hb : fn.body = some c) (n : Nat) (hn : fn.ntmps = n) (hl : l.length ≤ n) (h : EW P ⟨n, []⟩ c (bodyPostD P fn R) (argE 0 l) w) : Calls P f l.toArray w R := by
  subst hn
  exact calls_of_wp_defers hf hb (h _ (frame_env fn.ntmps l.toArray (argE 0 l) (by simpa using hl) (argE_spec l)))
section
variable {P : Program} {n : Fm} {ops : Array Oper} {Q : Exit → Act → World → Prop} {e : List (Nat × Value)} {w : World} {ty : TypeId} {ps : String} {af : Array Edge} {gd : Option (Nat × Bool)} {r : List Oper}
theorem Env.defer {a : Act} (h : Env n a e) (d : Deferred) : Env ⟨n.k, d :: n.D⟩ ({ a with defers := d :: a.defers }.put none undef) e := ⟨by simp [Act.put, h.df], by simp [Act.put, h.sz], fun i v hi => by have := h.kn i v hi; simpa [Act.put] using this⟩
theorem WL.defer {x : Operand} {g : FuncId} {cap : Array Value} {ts : Array TypeId} (hw : wantE ops e ⟨none, .defer { callee := .value x, args := #[], argTypes := ts }, ty, ps, af, gd⟩ = some true) (hf : evE e x = some (.func (.func g) #[] cap))
    (k : WL P ⟨n.k, { target := .fn (.func g) cap, args := #[] } :: n.D⟩ ops Q r e w) : WL P n ops Q (⟨none, .defer { callee := .value x, args := #[], argTypes := ts }, ty, ps, af, gd⟩ :: r) e w := fun a ha => by
  unfold wpList
  rw [if_pos (wantE_spec ha hw)]
  left
  unfold Oper.wp
  have e1 : (execOp a.eval ⟨none, .defer { callee := .value x, args := #[], argTypes := ts }, ty, ps, af, gd⟩).run P w = .ok (.defer { target := .fn (.func g) cap, args := #[] }) w := by
    simp [execOp, resolve, Deferred.ofValue, ha.ev hf]
  rw [e1]
  exact k _ (ha.defer _)
/-- A call that may panic. -/
theorem WL.callP {i : Nat} {f : FuncId} {xs : List Operand} {ts : Array TypeId} {R : Ending → World → Prop} (args : List Value) (hen : ∀ (args : Array Value) (W : World), (callFunc f args).run P W = .ok (.enter f args) W)
    (hw : wantE ops e ⟨some i, .call { callee := .value (.func f), args := xs.toArray, argTypes := ts }, ty, ps, af, gd⟩ = some true) (hi : decide (i < n.k) = true) (hx : xs.map (evE e) = args.map some) (hc : Calls P f args.toArray w R)
    (k : ∀ x w', R x w' → (∃ v, x = .returned v ∧ WL P n ops Q r ((i, v) :: e) w') ∨ ∃ ch, x = .panicked ch ∧ ∀ a, Env n a e → Q (.panic ch) a w') : WL P n ops Q (⟨some i, .call { callee := .value (.func f), args := xs.toArray, argTypes := ts }, ty, ps, af, gd⟩ :: r) e w := fun a ha => by
  unfold wpList
  rw [if_pos (wantE_spec ha hw)]
  left
  unfold Oper.wp
  have e1 : (execOp a.eval ⟨some i, .call { callee := .value (.func f), args := xs.toArray, argTypes := ts }, ty, ps, af, gd⟩).run P w = .ok (.enter f args.toArray) w := by
    have e2 : (execOp a.eval ⟨some i, .call { callee := .value (.func f), args := xs.toArray, argTypes := ts }, ty, ps, af, gd⟩).run P w = (callFunc f (xs.toArray.map a.eval)).run P w := by
      simp [execOp, resolve, Deferred.ofValue, invoke, Act.eval]
    rw [e2, hen, List.map_toArray, args_ev ha hx]
  rw [e1]
  simp only [Oper.upon]
  refine hc.mono fun y w' hy => ?_
  rcases k y w' hy with ⟨v, rfl, hk⟩ | ⟨ch, rfl, hk⟩
  · exact hk _ (ha.put i v (of_decide_eq_true hi))
  · exact hk a ha
theorem WL.panic {x : Operand} {t : TypeId} {v : Value} (hw : wantE ops e ⟨none, .panic x, ty, ps, af, gd⟩ = some true) (hx : evE e x = some (.iface t v)) (k : ∀ a, Env n a e → Q (.panic [{ v := .iface t v, recovered := false }]) a w) : WL P n ops Q (⟨none, .panic x, ty, ps, af, gd⟩ :: r) e w := fun a ha => by
  unfold wpList
  rw [if_pos (wantE_spec ha hw)]
  left
  unfold Oper.wp
  have e1 : (execOp a.eval ⟨none, .panic x, ty, ps, af, gd⟩).run P w = .halt (.panic (.iface t v)) w := by
    simp [execOp, ha.ev hx, Instr.panic, Result.andThen]
  rw [e1]
  exact k a ha
theorem pp_then {ch : List PanicEntry} {K : Act → World → Prop} (h : ∀ a, Env n a e → Q (.panic ch) a w) : ∀ a, Env n a e → Exit.then K Q (.panic ch) a w := h
theorem pp_block {ch : List PanicEntry} {id : Nat} (h : ∀ a, Env n a e → Q (.panic ch) a w) : ∀ a, Env n a e → Exit.inBlock id Q (.panic ch) a w := h
theorem pp_post {ch : List PanicEntry} {m : Nat} {fn : Func} {R : Ending → World → Prop} (h : R (.panicked ch) w) : ∀ a, Env ⟨m, []⟩ a e → bodyPost P fn R (.panic ch) a w := fun a ha => ⟨ha.df, h⟩
/-- A deferred literal behind a return, or behind a panic. -/
theorem EW.leaves {m : Nat} {fn : Func} {g : FuncId} {cap : Array Value} {R : Ending → World → Prop} {S : FrameMode → World → Prop} (hen : ∀ (args : Array Value) (W : World), (callFunc g args).run P W = .ok (.enter g args) W) (hc : CallsD P g cap .returning w (fun x u w' => (∃ v, x = .returned v) ∧ S u w'))
    (k : ∀ u w', S u w' → u = .returning ∧ ∀ a, Env ⟨m, [{ target := .fn (.func g) cap, args := #[] }]⟩ a e → ∃ v, (results fn a.tmps).run P w' = .ok v w' ∧ R (.returned v) w') : ∀ a, Env ⟨m, [{ target := .fn (.func g) cap, args := #[] }]⟩ a e → bodyPostD P fn R .ret a w := fun a ha => by
  show Leaves P fn a.tmps R a.defers .returning w
  rw [ha.df]
  refine leaves_cons (args := cap) (by simp) (by simp [invoke, hen]) (hc.mono ?_)
  rintro x u w' ⟨⟨v, rfl⟩, hs⟩
  obtain ⟨rfl, h⟩ := k u w' hs
  obtain ⟨v', h1, h2⟩ := h a ha
  exact ⟨v', h1, h2⟩
theorem EW.caught {m : Nat} {fn : Func} {g : FuncId} {cap : Array Value} {R : Ending → World → Prop} {S : World → Prop} {pv : Value} (hen : ∀ (args : Array Value) (W : World), (callFunc g args).run P W = .ok (.enter g args) W) (hc : CallsD P g cap (.panicking [{ v := pv, recovered := false }]) w (fun x u w' => (∃ v, x = .returned v) ∧ u = .panicking [{ v := pv, recovered := true }] ∧ S w'))
    (k : ∀ w', S w' → ∀ a, Env ⟨m, [{ target := .fn (.func g) cap, args := #[] }]⟩ a e → ∃ v, (results fn a.tmps).run P w' = .ok v w' ∧ R (.returned v) w') : ∀ a, Env ⟨m, [{ target := .fn (.func g) cap, args := #[] }]⟩ a e → bodyPostD P fn R (.panic [{ v := pv, recovered := false }]) a w := fun a ha => by
  show Leaves P fn a.tmps R a.defers _ w
  rw [ha.df]
  refine leaves_cons (args := cap) (by simp) (by simp [invoke, hen]) (hc.mono ?_)
  rintro x u w' ⟨⟨v, rfl⟩, rfl, hs⟩
  obtain ⟨v', h1, h2⟩ := k w' hs a ha
  exact ⟨v', h1, h2⟩
end
/-- The deferred literal's own walk: what lies below its frame may turn by recover. -/
def ES (P : Program) (n : Fm) (c : Code) (Q : Exit → Act → List Frame → World → Prop) (e : List (Nat × Value)) (cs : List Frame) (w : World) : Prop := ∀ a, Env n a e → c.wpS P Q a cs w
def WS (P : Program) (n : Fm) (ops : Array Oper) (Q : Exit → Act → List Frame → World → Prop) (l : List Nat) (e : List (Nat × Value)) (cs : List Frame) (w : World) : Prop := ∀ a, Env n a e → wpOpsS P ops Q l a cs w
section
variable {P : Program} {n : Fm} {ops : Array Oper} {Q : Exit → Act → List Frame → World → Prop} {e : List (Nat × Value)} {cs : List Frame} {w : World} {ty : TypeId} {ps : String} {af : Array Edge} {gd : Option (Nat × Bool)} {l : List Nat} {j : Nat}
theorem ES.seq {x y : Code} (h : ES P n x (Exit.thenS (y.wpS P Q) Q) e cs w) : ES P n (.seq x y) Q e cs w := fun a ha => wpS_seq (h a ha)
theorem ES.region {id : Nat} (h : WS P n ops Q (List.range ops.size) e cs w) : ES P n (.region id ops false) Q e cs w := fun a ha => wpS_region (h a ha)
theorem ES.of {c : Code} (h : EW P n c (fun x a' w' => Q x a' cs w') e w) : ES P n c Q e cs w := fun a ha => wpS_of_wp (h a ha)
theorem WS.on {y : Code} (h : ES P n y Q e cs w) : WS P n ops (Exit.thenS (y.wpS P Q) Q) [] e cs w := fun a ha => h a ha
theorem WS.recover {i : Nat} {ts : Array TypeId} {v : Value} {cs' : List Frame} (ho : ops[j]? = some ⟨some i, .call { callee := .builtin .recover, args := #[], argTypes := ts }, ty, ps, af, gd⟩) (hw : wantE ops e ⟨some i, .call { callee := .builtin .recover, args := #[], argTypes := ts }, ty, ps, af, gd⟩ = some true) (hi : decide (i < n.k) = true)
    (hr : recoverD cs = some (v, cs')) (k : WS P n ops Q l ((i, v) :: e) cs' w) : WS P n ops Q (j :: l) e cs w := fun a ha => by
  unfold wpOpsS
  rw [ho]
  dsimp only
  rw [if_pos (wantE_spec ha hw)]
  have e1 : (execOp a.eval ⟨some i, .call { callee := .builtin .recover, args := #[], argTypes := ts }, ty, ps, af, gd⟩).run P w = .ok .recover w := by
    simp [execOp, resolve, invoke, builtin]
  rw [e1]
  dsimp only
  rw [hr]
  exact k _ (ha.put i v (of_decide_eq_true hi))
theorem WS.recover0 {i : Nat} {ts : Array TypeId} (ho : ops[j]? = some ⟨some i, .call { callee := .builtin .recover, args := #[], argTypes := ts }, ty, ps, af, gd⟩) (hw : wantE ops e ⟨some i, .call { callee := .builtin .recover, args := #[], argTypes := ts }, ty, ps, af, gd⟩ = some true) (hi : decide (i < n.k) = true)
    (hr : recoverD cs = none) (k : WS P n ops Q l ((i, .nilIface) :: e) cs w) : WS P n ops Q (j :: l) e cs w := fun a ha => by
  unfold wpOpsS
  rw [ho]
  dsimp only
  rw [if_pos (wantE_spec ha hw)]
  have e1 : (execOp a.eval ⟨some i, .call { callee := .builtin .recover, args := #[], argTypes := ts }, ty, ps, af, gd⟩).run P w = .ok .recover w := by
    simp [execOp, resolve, invoke, builtin]
  rw [e1]
  dsimp only
  rw [hr]
  exact k _ (ha.put i .nilIface (of_decide_eq_true hi))
theorem WS.assign {i : Nat} {x : Operand} {v : Value} (ho : ops[j]? = some ⟨some i, .assign x, ty, ps, af, gd⟩) (hw : wantE ops e ⟨some i, .assign x, ty, ps, af, gd⟩ = some true) (hi : decide (i < n.k) = true) (hx : evE e x = some v) (k : WS P n ops Q l ((i, v) :: e) cs w) : WS P n ops Q (j :: l) e cs w := fun a ha => by
  unfold wpOpsS
  rw [ho]
  dsimp only
  rw [if_pos (wantE_spec ha hw)]
  have e1 : (execOp a.eval ⟨some i, .assign x, ty, ps, af, gd⟩).run P w = .ok (.value v) w := by simp [execOp, ha.ev hx]
  rw [e1]
  exact k _ (ha.put i v (of_decide_eq_true hi))
theorem WS.call {i : Nat} {f : FuncId} {xs : List Operand} {ts : Array TypeId} {R : Ending → World → Prop} (args : List Value) (hen : ∀ (args : Array Value) (W : World), (callFunc f args).run P W = .ok (.enter f args) W)
    (ho : ops[j]? = some ⟨some i, .call { callee := .value (.func f), args := xs.toArray, argTypes := ts }, ty, ps, af, gd⟩) (hw : wantE ops e ⟨some i, .call { callee := .value (.func f), args := xs.toArray, argTypes := ts }, ty, ps, af, gd⟩ = some true) (hi : decide (i < n.k) = true) (hx : xs.map (evE e) = args.map some) (hc : Calls P f args.toArray w R)
    (k : ∀ x w', R x w' → ∃ v, x = .returned v ∧ WS P n ops Q l ((i, v) :: e) cs w') : WS P n ops Q (j :: l) e cs w := fun a ha => by
  unfold wpOpsS
  rw [ho]
  dsimp only
  rw [if_pos (wantE_spec ha hw)]
  have e1 : (execOp a.eval ⟨some i, .call { callee := .value (.func f), args := xs.toArray, argTypes := ts }, ty, ps, af, gd⟩).run P w = .ok (.enter f args.toArray) w := by
    have e2 : (execOp a.eval ⟨some i, .call { callee := .value (.func f), args := xs.toArray, argTypes := ts }, ty, ps, af, gd⟩).run P w = (callFunc f (xs.toArray.map a.eval)).run P w := by
      simp [execOp, resolve, Deferred.ofValue, invoke, Act.eval]
    rw [e2, hen, List.map_toArray, args_ev ha hx]
  rw [e1]
  simp only [Oper.upon]
  refine hc.mono fun y w' hy => ?_
  obtain ⟨v, rfl, hk⟩ := k y w' hy
  exact hk _ (ha.put i v (of_decide_eq_true hi))
theorem callsD_of_args {f : FuncId} {fn : Func} {c : Code} {u : FrameMode} {R : Ending → FrameMode → World → Prop} (l : List Value) (hf : P.funcs[f]? = some fn) (hb : fn.body = some c) (n : Nat) (hn : fn.ntmps = n) (hl : l.length ≤ n)
    (h : ∀ (c₀ : Frame) (cs : List Frame), c₀.mode = u → ES P ⟨n, []⟩ c (bodyPostS P fn c₀ cs R) (argE 0 l) (c₀ :: cs) w) : CallsD P f l.toArray u w R := by
  subst hn
  exact callsD_of_wpS hf hb fun c₀ cs hu => h c₀ cs hu _ (frame_env fn.ntmps l.toArray (argE 0 l) (by simpa using hl) (argE_spec l))
theorem recover_no {c₀ : Frame} (h : c₀.mode = .returning) : recoverD (c₀ :: cs) = none := by simp [recoverD, h]
theorem recover_yes {c₀ : Frame} {v : Value} (h : c₀.mode = .panicking [{ v := v, recovered := false }]) : recoverD (c₀ :: cs) = some (v, { c₀ with mode := .panicking [{ v := v, recovered := true }] } :: cs) := by simp [recoverD, h]
end
end Go.Proofs.YtomioemhjhhbcaaGreatDoor

set_option linter.unusedVariables false
set_option linter.unusedSimpArgs false
namespace Go.Proofs.YtomioemhjhhbcaaGreatDoor
open Go.RowKit

theorem eq20n (W : World) (x : Operand) : (do eqGuard .eql 20 x (.const .nilIface) .nilIface .nilIface; binOp .eql 20 .nilIface .nilIface : Sem Value).run Tryz.prog W = .ok (.bool true) W := by
  have h : eqGuard .eql 20 x (.const .nilIface) .nilIface .nilIface = pure () := by
    unfold eqGuard
    cases x <;> simp
  rw [h]
  go_simp
set_option maxRecDepth 100000 in
set_option maxHeartbeats 1000000 in
theorem caught_nil (w : World) : Calls Tryz.prog 27 #[.nilIface] w fun e w' => e = .returned (.int .i64 0) ∧ w' = w := by
  refine calls_of_args [.nilIface] Tryz.func27 rfl 13 Tryz.ntmps27 (by show 1 ≤ 13; decide) ?_
  refine EW.seq ?_
  refine EW.region ?_
  first | refine WL.assign rfl rfl rfl ?_
  refine WL.done ?_
  refine EW.on ?_
  refine EW.seq ?_
  refine EW.seq ?_
  refine EW.region ?_
  first | refine WL.move rfl rfl rfl ?_
  refine WL.done ?_
  refine EW.on ?_
  refine EW.block ?_
  refine EW.seq ?_
  refine EW.region ?_
  refine WL.bin rfl rfl rfl rfl (eq20n _ _) ?_
  refine WL.done ?_
  refine EW.on ?_
  refine EW.cond_t rfl ?_
  refine EW.seq ?_
  refine EW.region ?_
  first | refine WL.assign rfl rfl rfl ?_
  refine WL.done ?_
  refine EW.on ?_
  refine EW.seq ?_
  refine EW.region ?_
  first | refine WL.assign rfl rfl rfl ?_
  refine WL.done ?_
  refine EW.on ?_
  refine EW.ret ?_
  refine pr_block ?_
  refine pr_then ?_
  exact EW.returns Tryz.results27 rfl ⟨rfl, rfl⟩
set_option maxRecDepth 100000 in
set_option maxHeartbeats 1000000 in
theorem open1_none (v0 v1 v2 : Value) (w : World) : CallsD Tryz.prog 36 #[v0, v1, v2] .returning w fun x u w' => (∃ v, x = .returned v) ∧ u = .returning ∧ w' = w := by
  refine callsD_of_args [v0, v1, v2] Tryz.func36 rfl 10 Tryz.ntmps36 (by show 3 ≤ 10; decide) (fun c₀ cs hc => ?_)
  refine ES.seq ?_
  refine ES.region ?_
  refine WS.recover0 rfl rfl rfl (recover_no hc) ?_
  refine WS.call [.nilIface] enter27 rfl rfl rfl rfl (caught_nil _) ?_
  rintro _ w1 ⟨rfl, hz⟩
  rw [hz]
  refine ⟨_, rfl, ?_⟩
  refine WS.assign rfl rfl rfl rfl ?_
  refine WS.on ?_
  refine ES.of ?_
  refine EW.seq ?_
  refine EW.region ?_
  refine WL.move rfl rfl rfl ?_
  refine WL.bin rfl rfl rfl rfl (int_ne_f rfl _ _ _) ?_
  refine WL.done ?_
  refine EW.on ?_
  refine EW.cond_f rfl ?_
  refine EW.skip ?_
  intro a ha
  exact ⟨ha.df, .returning, by rw [← hc], _, by rw [results_none Tryz.results36], ⟨_, rfl⟩, rfl, rfl⟩
end Go.Proofs.YtomioemhjhhbcaaGreatDoor

set_option linter.unusedVariables false
set_option linter.unusedSimpArgs false
namespace Go.Proofs.YtomioemhjhhbcaaGreatDoor
open Go.RowKit

def dropL (L : Lay) : Lay := ⟨L.p, L.gi, L.gn, .slice none 0 0, L.vk, []⟩
theorem drop_own (L : Lay) (k : Nat) (h : (dropL L).F k) : L.F k := by
  rcases h with h | h | h | h | h | h
  · exact .inl h
  · exact .inr (.inl h)
  · exact .inr (.inr (.inl h))
  · simp [dropL, Value.ownBlock] at h
  · exact .inr (.inr (.inr (.inr (.inl h))))
  · simp [dropL] at h
/-- Behind dropPending. -/
theorem Dev.dropped {w w' : World} {L : Lay} {D : Dv} (h : Dev w L D) (hf : Fx (fun k => k = L.gn ∨ k = L.p) w w') (hN : Blk w' L.gn (nwC D.n (fun _ => 0)) 3) (hP : Blk w' L.p (dvC L.gi D.n (.slice none 0 0) L.gn D.left L.vk D.torn D.off D.down D.calls) 81) : Dev w' (dropL L) { D with pen := [] } :=
  { dev := hP, img := h.img.fx hf (fun e => e.elim (fun e => h.inn e) (fun e => h.pi (Eq.symm e))), new := hN, pen := ⟨rfl, .inl ⟨rfl, rfl⟩⟩, bys := fun k g x h1 => by simp [dropL] at h1, gsl := rfl,
    kp := h.kp.fx hf (fun k hk e => e.elim (fun e => (h.vkn k hk).2.2.1 e) (fun e => (h.vkn k hk).1 e)), ok := ⟨h.ok.n1, h.ok.n2, h.ok.len, fun x hx => by simp at hx, by simp, h.ok.cal⟩, pi := h.pi, pn := h.pn, inn := h.inn,
    vpn := fun k hk => by simp [dropL, Value.ownBlock] at hk, vkn := fun k hk => ⟨(h.vkn k hk).1, (h.vkn k hk).2.1, (h.vkn k hk).2.2.1, Nat.lt_of_lt_of_le (h.vkn k hk).2.2.2 hf.size⟩, gsn := fun k hk => by simp [dropL] at hk }
/-- All pending writes go to the image. -/
def flushD (D : Dv) : Dv := { tickD D with img := imgT (fun _ => 512) D.pen D.img D.pen.length, pen := [] }
theorem flush_no {w : World} {L : Lay} {D : Dv} (h : Dev w L D) (hd : D.down = true) : Calls Tryz.prog 74 #[.pointer (some ⟨L.p, 0, none⟩)] w fun e w' => e = .returned (.int .i64 80) ∧ w' = w := by
  have hc := h.c7
  rw [hd] at hc
  clear h
  go_enter Tryz.func74, Tryz.ntmps74
  go_wp2
  go_ret
  exact ⟨rfl, rfl⟩
set_option maxRecDepth 100000 in
set_option maxHeartbeats 1000000 in
theorem flush_crash {w : World} {L : Lay} {D : Dv} (h : Dev w L D) (hd : D.down = false) (hcal : D.calls < 1000000000000) (h1 : D.left = 1) : Calls Tryz.prog 74 #[.pointer (some ⟨L.p, 0, none⟩)] w fun e w' =>
    e = .returned (.int .i64 80) ∧ Turn w w' L (bareL L) ∧ Dev w' (bareL L) (changedD D) := by
  have hc := h.c7
  rw [hd] at hc
  have hch := hide (changed_any h hcal (by omega))
  rw [show changedE D = 80 from if_pos h1, show changedL L D = bareL L from if_pos h1] at hch
  clear h h1
  go_enter Tryz.func74, Tryz.ntmps74
  go_wp2_with (first
    | (go_at_call 85; refine hch.out.mono ?_; rintro e w6 ⟨rfl, hp, hq⟩; have T6 := hide hp; have D6 := hide hq; clear hp hq)
    | fail)
  go_ret
  exact ⟨rfl, T6.out, D6.out⟩

set_option maxRecDepth 100000 in
set_option maxHeartbeats 4000000 in
theorem flush_ok {w : World} {L : Lay} {D : Dv} (h : Dev w L D) (hd : D.down = false) (hcal : D.calls < 1000000000000) (hleft : D.left < 9223372036854775808) (h1 : D.left ≠ 1) : Calls Tryz.prog 74 #[.pointer (some ⟨L.p, 0, none⟩)] w fun e w' =>
    e = .returned (.int .i64 0) ∧ Turn w w' L (dropL L) ∧ Dev w' (dropL L) (flushD D) := by
  have hc := h.c7
  rw [hd] at hc
  have hch := hide (changed_any h hcal hleft)
  rw [show changedE D = 0 from if_neg h1, show changedL L D = L from if_neg h1, show changedD D = tickD D from if_neg h1] at hch
  have hpen : (tickD D).pen = D.pen := rfl
  have himg : (tickD D).img = D.img := rfl
  unfold flushD
  rw [← hpen, ← himg]
  obtain ⟨E, hE⟩ : ∃ E, tickD D = E := ⟨_, rfl⟩
  rw [hE] at hch ⊢
  clear hpen himg hE h h1
  go_enter Tryz.func74, Tryz.ntmps74
  go_upto_region 6 with (first
    | (go_at_call 85; refine hch.out.mono ?_; rintro e w0 ⟨rfl, hp, hq⟩; have T0 := hide hp; have H := hide hq; clear hp hq)
    | fail)
  clear hc hch
  have hlen := pen_len H.out.pen
  have hc1 := H.out.c1
  have few := H.out.ok.few
  obtain ⟨m, hm⟩ : ∃ m, E.pen.length = m := ⟨_, rfl⟩
  rw [hm] at hlen few
  have HIL := hide (fun t ht => imgT_length (fun _ => 512) E.pen E.img E.n H.out.ok.len (fun _ => Nat.le_refl _) H.out.ok.sec t ht)
  go_wp2
  go_loopw [20] (fun i wr => ∃ t : Nat, t ≤ m ∧ i = .int .i64 t ∧ Hid (Fx (One L.gi) w0 wr ∧ Blk wr L.gi ((imgT (fun _ => 512) E.pen E.img t).map byt) 5)) (fun i _ => m - (intOf i).toNat)
  case atStart => exact ⟨0, by omega, rfl, hide ⟨Fx.refl _ _, H.out.img⟩⟩
  case round =>
    obtain ⟨t, ht, rfl, hs⟩ := hrel
    by_cases hlt : t < m
    · have hlz : (t : Int) < (m : Int) := by omega
      obtain ⟨x, hx⟩ : ∃ x, E.pen[t]? = some x := ⟨E.pen[t]'(by omega), List.getElem?_eq_getElem _⟩
      obtain ⟨gb, hgb⟩ : ∃ g, L.gs[t]? = some g := ⟨L.gs[t]'(by rw [H.out.gsl]; omega), List.getElem?_eq_getElem _⟩
      obtain ⟨g, hgo, hix, hrg⟩ := pen_item H.out.pen t gb x hgb hx
      obtain ⟨n1, n2, n3, _, _⟩ := H.out.vpn g hgo
      obtain ⟨hsec, hxb⟩ := H.out.ok.sec x (List.mem_of_getElem? hx)
      have hbb := H.out.bys t gb x hgb hx
      have hgbn := (H.out.gsn gb (List.mem_of_getElem? hgb)).2.1
      have RG : Hid (wr.rangeAt g (t * 2) (pwC x.1 (bV gb))) := hide (fun j v hj => hs.out.1.cell (hrg j v hj) (fun e => n2 e))
      have hget : E.pen.getD t (0, []) = x := by rw [List.getD_eq_getElem?_getD, hx]; rfl
      obtain ⟨gw, hgw⟩ : ∃ gw, wr.heap.size = gw := ⟨_, rfl⟩
      go_upto_region 9 with (first
        | (refine wpList_load_mid rfl 130 (.tmp 22) rfl g (t * 2) rfl (pwC x.1 (bV gb)) _ RG.out Tryz.underlying130 rfl (info78 _ _) ?_)
        | (refine wpList_newAt rfl 130 rfl _ zero78 gw hgw ?_)
        | (refine wpList_store_row rfl 130 (.tmp 5) (.tmp 23) rfl gw (pwC x.1 (bV gb)).toArray rfl rfl 130 _ (Blk.newAt hgw) (info78A _ _) rfl (pwC_one _ _) ?_))
      have be1 : Below wr.heap.size wr ((wr.alloc (.cells [Value.int .i64 0, .slice none 0 0].toArray 130)).setRow gw (pwC x.1 (bV gb)).toArray) := below_setRow (below_new wr _) _ _ (by omega)
      have bw : Blk ((wr.alloc (.cells [Value.int .i64 0, .slice none 0 0].toArray 130)).setRow gw (pwC x.1 (bV gb)).toArray) gw (pwC x.1 (bV gb)) 130 := (Blk.newAt hgw).setRow _
      generalize (wr.alloc (.cells [Value.int .i64 0, .slice none 0 0].toArray 130)).setRow gw (pwC x.1 (bV gb)).toArray = w1 at be1 bw ⊢
      have hf1 : Fx (One L.gi) w0 w1 := hs.out.1.then_below be1
      have hI1 : Blk w1 L.gi ((imgT (fun _ => 512) E.pen E.img t).map byt) 5 := hs.out.2.on be1
      have hst := hide (settle_any (w := w1) (L := L) (n := E.n) (img := imgT (fun _ => 512) E.pen E.img t) (hf1.cell H.out.c0 (fun e => H.out.pi e)) hI1 (HIL.out t (by omega)) H.out.ok.n2 x.1 512 hsec (Nat.le_refl _) (bV gb) x.2 hxb (Blk.hasB (hbb.fx hf1 (fun e => hgbn e)) hxb))
      have F1 := hide hf1
      have BW := hide bw
      clear hI1 hf1 be1 bw hs RG hrg hbb
      go_wp2_with (first
        | (refine wpList_load_row rfl 130 (.tmp 5) rfl gw rfl 130 (pwC x.1 (bV gb)).toArray (0, 0) _ BW.out Tryz.underlying130 rfl (info78A _ _) ?_)
        | (go_at_call 86; refine hst.out.mono ?_; rintro e w3 ⟨rfl, hp, hq⟩; have F3 := hide hp; have I3 := hide hq; clear hp hq)
        | fail)
      go_roundw
      case rel =>
        refine ⟨t + 1, by omega, by go_num, hide ⟨F1.out.and F3.out, ?_⟩⟩
        rw [imgT, hget]; exact I3.out
      case measure => simp [intOf]; omega
    · obtain rfl : t = m := by omega
      have hD : Dev wr L { E with img := imgT (fun _ => 512) E.pen E.img t } := H.out.setImg hs.out.1 _ hs.out.2 (HIL.out t (by omega))
      have hdr := hide (drop_any hD)
      have HS := hide hs.out.1
      have HDD := hide hD
      clear hs hD
      go_wp2_with (first
        | (go_at_call 87; refine hdr.out.mono ?_; rintro e w3 ⟨rfl, hp, hq, hr⟩; have F3 := hide hp; have N3 := hide hq; have P3 := hide hr; clear hp hq hr)
        | fail)
      go_ret
      refine ⟨rfl, T0.out.trans ⟨(HS.out.mono (fun i _ h => .inr (.inl h))).and (F3.out.mono (fun i _ h => h.elim (fun h => .inr (.inr (.inl h))) (fun h => .inl h))), fun k h => .inl (drop_own L k h), rfl⟩, ?_⟩
      rw [hm]
      exact HDD.out.dropped F3.out N3.out P3.out
end Go.Proofs.YtomioemhjhhbcaaGreatDoor
