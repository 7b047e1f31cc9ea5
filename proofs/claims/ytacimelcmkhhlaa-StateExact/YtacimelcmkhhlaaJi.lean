import Derived.Test.YtacimelcmkhhlaaEdG
set_option linter.unusedVariables false
set_option linter.unusedSimpArgs false
namespace Go.Proofs.Ytacimelcmkhhlaa
open Go.RowKit

theorem bld99 (a : Value) (ha : ∃ ao n c, a = .slice ao n c) (W : World) : (Instr.build 106 [(0, a)].toArray).run Try.prog W = .ok (.agg [a, .int .i64 0, .int .i64 0].toArray) W := by
  obtain ⟨_, _, _, rfl⟩ := ha
  kernel_rfl
theorem box99 (a : Value) (ha : ∃ ao n c, a = .slice ao n c) (w : World) : ∃ w1 q, (Instr.box 106 (.agg [a, .int .i64 0, .int .i64 0].toArray)).run Try.prog w = .ok (.pointer (some ⟨q, 0, none⟩)) w1 ∧ Blk w1 q [a, .int .i64 0, .int .i64 0] 106 ∧ Below w.heap.size w w1 ∧ q = w.heap.size := by
  obtain ⟨_, _, _, rfl⟩ := ha
  exact ⟨_, _, run_boxR 106 _ w _ rfl, Blk.new _ _ _, below_new _ _, rfl⟩

set_option maxRecDepth 100000 in
set_option maxHeartbeats 1000000 in
theorem newR_any (v : Value) (c : List UInt8) (w : World) (hb : Has w v c) (hl : c.length ≤ 140737488355328) : Calls Try.prog 35 #[v] w fun e w' => ∃ u q, e = .returned (.pointer (some ⟨q, 0, none⟩)) ∧ Rd w' q u c 0 0 ∧ w.heap.size ≤ q ∧ Fresh w u ∧ Below w.heap.size w w' := by
  refine calls_of_args [v] Try.func35 rfl 7 Try.ntmps35 (by show 1 ≤ 7; decide) ?_
  refine EW.seq ?_
  refine EW.region ?_
  first | refine WL.assign rfl rfl rfl ?_
  refine WL.done ?_
  refine EW.on ?_
  refine EW.seq ?_
  refine EW.region ?_
  first | refine WL.move rfl rfl rfl ?_
  refine WL.call [v] enter58 rfl rfl rfl (clone_ob v c _ hb hl) ?_
  rintro _ w1 ⟨u, rfl, g1, g3⟩
  obtain ⟨w2, q, r2, b2, e2, hq⟩ := box99 u g1.has.sl w1
  refine ⟨_, rfl, ?_⟩
  refine WL.buildN [(0, u)] rfl rfl rfl (bld99 _ g1.has.sl _) ?_
  refine WL.box rfl rfl rfl r2 ?_
  first | refine WL.assign rfl rfl rfl ?_
  refine WL.done ?_
  refine EW.on ?_
  refine EW.ret ?_
  exact EW.returns Try.results35 rfl ⟨u, q, rfl, ⟨b2, g1.has.below e2, Nat.zero_le _⟩, by have := g3.size; omega, g1.base, g3.trans (e2.mono g3.size)⟩
theorem callsDA_of_args {P : Program} {f : FuncId} {fn : Func} {c : Code} {w : World} {R : Ending → World → Prop} (u : FrameMode) (l : List Value) (hf : P.funcs[f]? = some fn) (hb : fn.body = some c) (n : Nat) (hn : fn.ntmps = n) (hl : l.length ≤ n) (h : EW P ⟨n, []⟩ c (bodyPost P fn R) (argE 0 l) w) : CallsD P f l.toArray u w (fun e u' w' => u' = u ∧ R e w') := by
  subst hn
  exact callsD_of_wp hf hb (h _ (frame_env fn.ntmps l.toArray (argE 0 l) (by simpa using hl) (argE_spec l)))
section
variable {P : Program} {n : Fm} {ops : Array Oper} {Q : Exit → Act → World → Prop} {e : List (Nat × Value)} {w : World} {ty : TypeId} {ps : String} {af : Array Edge} {gd : Option (Nat × Bool)} {r : List Oper}
theorem WL.deferA {f : FuncId} {xs : List Operand} {ts : Array TypeId} (args : List Value) (hw : wantE ops e ⟨none, .defer { callee := .value (.func f), args := xs.toArray, argTypes := ts }, ty, ps, af, gd⟩ = some true) (hx : xs.map (evE e) = args.map some)
    (k : WL P ⟨n.k, { target := .fn (.func f) #[], args := args.toArray } :: n.D⟩ ops Q r e w) : WL P n ops Q (⟨none, .defer { callee := .value (.func f), args := xs.toArray, argTypes := ts }, ty, ps, af, gd⟩ :: r) e w := fun a ha => by
  unfold wpList
  rw [if_pos (wantE_spec ha hw)]
  left
  unfold Oper.wp
  have e1 : (execOp a.eval ⟨none, .defer { callee := .value (.func f), args := xs.toArray, argTypes := ts }, ty, ps, af, gd⟩).run P w = .ok (.defer { target := .fn (.func f) #[], args := args.toArray }) w := by
    have e2 : (execOp a.eval ⟨none, .defer { callee := .value (.func f), args := xs.toArray, argTypes := ts }, ty, ps, af, gd⟩).run P w = .ok (.defer { target := .fn (.func f) #[], args := xs.toArray.map a.eval }) w := by
      simp [execOp, resolve, Deferred.ofValue, Act.eval]
    rw [e2, List.map_toArray, args_ev ha hx]
  rw [e1]
  exact k _ (ha.defer _)
theorem EW.leavesA {m : Nat} {fn : Func} {g : FuncId} {args : List Value} {R : Ending → World → Prop} {S : World → Prop} (hen : ∀ (args : Array Value) (W : World), (callFunc g args).run P W = .ok (.enter g args) W) (hc : CallsD P g args.toArray .returning w (fun x u w' => u = .returning ∧ x = .returned (.tuple #[]) ∧ S w'))
    (k : ∀ w', S w' → ∀ a, Env ⟨m, [{ target := .fn (.func g) #[], args := args.toArray }]⟩ a e → ∃ v, (results fn a.tmps).run P w' = .ok v w' ∧ R (.returned v) w') : ∀ a, Env ⟨m, [{ target := .fn (.func g) #[], args := args.toArray }]⟩ a e → bodyPostD P fn R .ret a w := fun a ha => by
  show Leaves P fn a.tmps R a.defers .returning w
  rw [ha.df]
  refine leaves_cons (args := args.toArray) (by simp) (by simp [invoke, hen]) (hc.mono ?_)
  rintro x u w' ⟨rfl, rfl, hs⟩
  obtain ⟨v', h1, h2⟩ := k w' hs a ha
  exact ⟨v', h1, h2⟩
end
theorem res_ci {fn : Func} {p0 p1 : Tmp} {t0 : TypeId} (h : fn.results = #[.cell p0 t0, .cell p1 35]) (tmps : Array Value) (w : World) (g0 g1 : Nat) (s0 s1 : TypeId) (c0 : List Value) (x : Int) (d0 : TypeDesc) (hp0 : tmps.getD p0 undef = .pointer (some ⟨g0, 0, none⟩)) (hg0 : Blk w g0 c0 s0) (hu0 : Try.prog.underlying t0 = some d0) (hd0 : d0.isRow = true) (hi0 : (Try.prog.info? t0).map (·.size) = some c0.length) (hp1 : tmps.getD p1 undef = .pointer (some ⟨g1, 0, none⟩)) (hg1 : Blk w g1 [.int .i64 x] s1) : (results fn tmps).run Try.prog w = .ok (.tuple #[.agg c0.toArray, .int .i64 x]) w := by
  have e0 : tmps[p0]?.getD undef = .pointer (some ⟨g0, 0, none⟩) := by simpa using hp0
  have r0 := run_loadVar_row w g0 s0 t0 c0.toArray (0, 0) d0 hg0 hu0 (by cases d0 <;> simp [TypeDesc.isRow] at hd0 ⊢) (by simpa using hi0)
  have e1 : tmps[p1]?.getD undef = .pointer (some ⟨g1, 0, none⟩) := by simpa using hp1
  have hc : w.cell? ⟨g1, 0, none⟩ = some (.int .i64 x) := by rw [hg1.cell]; rfl
  simp [results, h, e0, e1, asAddr, r0]
  go_simp
/-- The fault goes ahead of the error; beside an error nothing is handed out. -/
def tlE (f e : Int) : Int := if f = 0 then e else f
theorem ldE0 {w : World} {q : Nat} {x : Int} (hb : Blk w q [.int .i64 x] 35) : (Instr.loadAt 35 (.pointer (some ⟨q, 0, none⟩))).run Try.prog w = .ok (.int .i64 x) w := ldE hb rfl
theorem stE0 {w : World} {q : Nat} {x : Int} (hb : Blk w q [.int .i64 x] 35) (y : Int) : ∃ w', (Instr.storeAt 35 (.pointer (some ⟨q, 0, none⟩)) (.int .i64 y)).run Try.prog w = .ok () w' ∧ Blk w' q [.int .i64 y] 35 ∧ Fx (fun k => k = q) w w' := stE35 hb (by show 0 < 1; decide) y
set_option maxRecDepth 100000 in
set_option maxHeartbeats 4000000 in
theorem tellS (u : FrameMode) (q p pe : Nat) (v : Value) (c : List UInt8) (at_ : Nat) (f : Int) (s : Sg) (ks : s.ok) (e0 : Int) (w : World) (hr : Rd w q v c at_ f) (hp : Blk w p s.cs 33) (he : Blk w pe [.int .i64 e0] 35) (hpe : ¬ p = pe) : CallsD Try.prog 40 #[.pointer (some ⟨q, 0, none⟩), .pointer (some ⟨p, 0, none⟩), .pointer (some ⟨pe, 0, none⟩)] u w fun x u' w' => u' = u ∧ x = .returned (.tuple #[]) ∧ Blk w' p (if tlE f e0 = 0 then s else Sg.z).cs 33 ∧ Blk w' pe [.int .i64 (tlE f e0)] 35 ∧ Fx (fun k => k = p ∨ k = pe) w w' := by
  refine callsDA_of_args u [.pointer (some ⟨q, 0, none⟩), .pointer (some ⟨p, 0, none⟩), .pointer (some ⟨pe, 0, none⟩)] Try.func40 rfl 26 Try.ntmps40 (by show 3 ≤ 26; decide) ?_
  refine EW.seq ?_
  refine EW.seq ?_
  refine EW.region ?_
  first | refine WL.move rfl rfl rfl ?_
  refine WL.call [.pointer (some ⟨q, 0, none⟩)] enter59 rfl rfl rfl (fault_any q v c (at_, f) w hr) ?_
  rintro _ w1 ⟨a, rfl, e1⟩
  refine ⟨_, rfl, ?_⟩
  have bp1 := hp.on e1
  have be1 := he.on e1
  first | refine WL.move rfl rfl rfl ?_
  first | refine WL.extract rfl rfl rfl (ext_2 _ _ _).1 ?_
  first | refine WL.extract rfl rfl rfl (ext_2 _ _ _).2 ?_
  first | refine WL.assign rfl rfl rfl ?_
  first | refine WL.assign rfl rfl rfl ?_
  refine WL.done ?_
  refine EW.on ?_
  refine EW.seq ?_
  by_cases hf : f = 0
  · refine EW.region ?_
    first | refine WL.move rfl rfl rfl ?_
    refine WL.bin rfl rfl rfl rfl (int_ne_f hf _ _ _) ?_
    refine WL.done ?_
    refine EW.on ?_
    refine EW.cond_f rfl ?_
    refine EW.skip ?_
    refine EW.on ?_
    refine EW.seq ?_
    refine EW.region ?_
    first | refine WL.move rfl rfl rfl ?_
    first | refine WL.nilc rfl rfl rfl ?_
    refine WL.load rfl rfl rfl (ldE0 be1) ?_
    refine WL.bin rfl rfl rfl rfl (int_ne_d _ _ _ _ _) ?_
    refine WL.done ?_
    refine EW.on ?_
    refine EW.cond_d rfl (fun h22 => ?_) (fun h22 => ?_)
    · refine EW.seq ?_
      refine EW.region ?_
      obtain ⟨w3, q3, r3, b3, e3, hq3⟩ := new_any (t := 33) (cs := Sg.z.cs) zv33 w1
      refine WL.new rfl rfl r3 ?_
      have bp3 := bp1.on e3
      have be3 := be1.on e3
      have hq3' := bp3.lt
      refine WL.done ?_
      refine EW.on ?_
      refine EW.region ?_
      first | refine WL.move rfl rfl rfl ?_
      refine WL.load rfl rfl rfl (Sg.ld b3 Sg.z_ok) ?_
      first | refine WL.nilc rfl rfl rfl ?_
      obtain ⟨w4, s4, bp4, f4⟩ := Sg.st (s := Sg.z) bp3 ks Sg.z_ok
      refine WL.store rfl rfl rfl s4 ?_
      have be4 := be3.fx f4 (fun e => hpe e.symm)
      refine WL.done ?_
      exact EW.falls Try.results40 ⟨rfl, by rw [tlE, if_pos hf, if_neg h22]; exact bp4, by rw [tlE, if_pos hf]; exact be4, (Fx.of_below (bt e1 e3)).trans f4 (fun k _ e => .inl e)⟩
    · refine EW.skip ?_
      exact EW.falls Try.results40 ⟨rfl, by rw [tlE, if_pos hf, if_pos (Classical.not_not.1 h22)]; exact bp1, by rw [tlE, if_pos hf]; exact be1, Fx.of_below e1⟩
  · refine EW.region ?_
    first | refine WL.move rfl rfl rfl ?_
    refine WL.bin rfl rfl rfl rfl (int_ne_t hf _ _ _) ?_
    refine WL.done ?_
    refine EW.on ?_
    refine EW.cond_t rfl ?_
    refine EW.region ?_
    first | refine WL.move rfl rfl rfl ?_
    first | refine WL.move rfl rfl rfl ?_
    first | refine WL.nilc rfl rfl rfl ?_
    obtain ⟨w2, s2, be2, f2⟩ := stE0 be1 f
    refine WL.store rfl rfl rfl s2 ?_
    have bp2 := bp1.fx f2 (fun e => hpe e)
    refine WL.done ?_
    refine EW.on ?_
    refine EW.seq ?_
    refine EW.region ?_
    first | refine WL.move rfl rfl rfl ?_
    first | refine WL.nilc rfl rfl rfl ?_
    refine WL.load rfl rfl rfl (ldE0 be2) ?_
    refine WL.bin rfl rfl rfl rfl (int_ne_t hf _ _ _) ?_
    refine WL.done ?_
    refine EW.on ?_
    refine EW.cond_t rfl ?_
    refine EW.seq ?_
    refine EW.region ?_
    obtain ⟨w3, q3, r3, b3, e3, hq3⟩ := new_any (t := 33) (cs := Sg.z.cs) zv33 w2
    refine WL.new rfl rfl r3 ?_
    have bp3 := bp2.on e3
    have be3 := be2.on e3
    have hq3' := bp3.lt
    refine WL.done ?_
    refine EW.on ?_
    refine EW.region ?_
    first | refine WL.move rfl rfl rfl ?_
    refine WL.load rfl rfl rfl (Sg.ld b3 Sg.z_ok) ?_
    first | refine WL.nilc rfl rfl rfl ?_
    obtain ⟨w4, s4, bp4, f4⟩ := Sg.st (s := Sg.z) bp3 ks Sg.z_ok
    refine WL.store rfl rfl rfl s4 ?_
    have be4 := be3.fx f4 (fun e => hpe e.symm)
    refine WL.done ?_
    exact EW.falls Try.results40 ⟨rfl, by rw [tlE, if_neg hf, if_neg hf]; exact bp4, by rw [tlE, if_neg hf]; exact be4, (((Fx.of_below e1).trans f2 (fun k _ e => .inr e)).then_below e3).trans f4 (fun k _ e => .inl e)⟩
end Go.Proofs.Ytacimelcmkhhlaa
