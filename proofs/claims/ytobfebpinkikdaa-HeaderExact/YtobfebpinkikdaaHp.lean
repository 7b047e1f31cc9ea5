import Derived.Test.YtobfebpinkikdaaHo
set_option linter.unusedVariables false
set_option linter.unusedSimpArgs false
namespace Go.Proofs.Ytobfebpinkikdaa
open Go.RowKit

theorem results_twoN {P : Program} {fn : Func} {p q : Tmp} {ty : TypeId} (h : fn.results = #[.cell p ty, .tmp q]) (tmps : Array Value) (w : World) (g : Nat) (t : TypeId) (cs : Array Value) (fr : Nat × Nat) (d : TypeDesc) (v : Value)
    (hp : tmps.getD p undef = .pointer (some ⟨g, 0, none⟩)) (hq : tmps.getD q undef = v) (hg : w.heap[g]? = some (.cells cs t fr))
    (hu : P.underlying ty = some d) (hd : (match d with | .struct _ | .array _ _ => true | _ => false) = true) (hi : (P.info? ty).map (·.size) = some cs.size) :
    (results fn tmps).run P w = .ok (.tuple #[.agg cs, v]) w := by
  have hp' : tmps[p]?.getD undef = .pointer (some ⟨g, 0, none⟩) := by simpa using hp
  have hq' : tmps[q]?.getD undef = v := by simpa using hq
  simp [results, h, hp', hq', asAddr, run_loadVar_row w g t ty cs fr d hg hu hd hi]
theorem EW.returnsCT {P : Program} {n : Nat} {e : List (Nat × Value)} {w : World} {fn : Func} {R : Ending → World → Prop} {t u : Nat} {ty ty' : TypeId} {g : Nat} {cs : List Value} {v : Value} {d : TypeDesc} (hres : fn.results = #[.cell t ty, .tmp u]) (hv : e.lookup t = some (.pointer (some ⟨g, 0, none⟩))) (hv' : e.lookup u = some v) (hg : Blk w g cs ty') (hu : P.underlying ty = some d) (hd : (match d with | .struct _ | .array _ _ => true | _ => false) = true) (hi : (P.info? ty).map (·.size) = some cs.length) (h : R (.returned (.tuple #[.agg cs.toArray, v])) w) : ∀ a, Env n a e → bodyPost P fn R .ret a w := fun a ha =>
  bodyPost_ret (v := .tuple #[.agg cs.toArray, v]) (results_twoN hres a.tmps w g ty' cs.toArray (0, 0) d v (ha.kn t _ hv) (ha.kn u _ hv') hg hu hd (by simpa using hi)) ha.df h
theorem results_ctt {P : Program} {fn : Func} {p q x : Tmp} {ty : TypeId} (h : fn.results = #[.cell p ty, .tmp q, .tmp x]) (tmps : Array Value) (w : World) (g : Nat) (t : TypeId) (cs : Array Value) (fr : Nat × Nat) (d : TypeDesc) (v v' : Value)
    (hp : tmps.getD p undef = .pointer (some ⟨g, 0, none⟩)) (hq : tmps.getD q undef = v) (hx : tmps.getD x undef = v') (hg : w.heap[g]? = some (.cells cs t fr))
    (hu : P.underlying ty = some d) (hd : (match d with | .struct _ | .array _ _ => true | _ => false) = true) (hi : (P.info? ty).map (·.size) = some cs.size) :
    (results fn tmps).run P w = .ok (.tuple #[.agg cs, v, v']) w := by
  have hp' : tmps[p]?.getD undef = .pointer (some ⟨g, 0, none⟩) := by simpa using hp
  have hq' : tmps[q]?.getD undef = v := by simpa using hq
  have hx' : tmps[x]?.getD undef = v' := by simpa using hx
  simp [results, h, hp', hq', hx', asAddr, run_loadVar_row w g t ty cs fr d hg hu hd hi]
theorem EW.returnsCTT {P : Program} {n : Nat} {e : List (Nat × Value)} {w : World} {fn : Func} {R : Ending → World → Prop} {t u x : Nat} {ty ty' : TypeId} {g : Nat} {cs : List Value} {v v' : Value} {d : TypeDesc} (hres : fn.results = #[.cell t ty, .tmp u, .tmp x]) (hv : e.lookup t = some (.pointer (some ⟨g, 0, none⟩))) (hv' : e.lookup u = some v) (hv'' : e.lookup x = some v') (hg : Blk w g cs ty') (hu : P.underlying ty = some d) (hd : (match d with | .struct _ | .array _ _ => true | _ => false) = true) (hi : (P.info? ty).map (·.size) = some cs.length) (h : R (.returned (.tuple #[.agg cs.toArray, v, v'])) w) : ∀ a, Env n a e → bodyPost P fn R .ret a w := fun a ha =>
  bodyPost_ret (v := .tuple #[.agg cs.toArray, v, v']) (results_ctt hres a.tmps w g ty' cs.toArray (0, 0) d v v' (ha.kn t _ hv) (ha.kn u _ hv') (ha.kn x _ hv'') hg hu hd (by simpa using hi)) ha.df h
def s2R (c : List UInt8) (s : Nat × Int) : Nat × Int := rS c 1 (rS c 1 s)
def stE (c : List UInt8) (s : Nat × Int) : Int := if (s2R c s).2 = 0 then (if numB (rB c 1 s) = 1 then 0 else 140) else (s2R c s).2
def stK (c : List UInt8) (s : Nat × Int) : Nat := if stE c s = 0 then numB (rB c 1 (rS c 1 s)) else 0
set_option maxRecDepth 100000 in
set_option maxHeartbeats 4000000 in
theorem rstart_any (q : Nat) (v : Value) (c : List UInt8) (s : Nat × Int) (w : World) (hr : Rd w q v c s.1 s.2) (hl : c.length ≤ 140737488355328) : Calls Try.prog 31 #[.pointer (some ⟨q, 0, none⟩)] w fun e w' => e = .returned (.tuple #[.int .i64 (stK c s : Int), .int .i64 (stE c s)]) ∧ Rd w' q v c (s2R c s).1 (s2R c s).2 ∧ Fx (fun k => k = q) w w' := by
  refine calls_of_args [.pointer (some ⟨q, 0, none⟩)] Try.func31 rfl 22 Try.ntmps31 (by show 1 ≤ 22; decide) ?_
  refine EW.seq ?_
  refine EW.region ?_
  first | refine WL.assign rfl rfl rfl ?_
  first | refine WL.assign rfl rfl rfl ?_
  refine WL.done ?_
  refine EW.on ?_
  refine EW.seq ?_
  refine EW.region ?_
  first | refine WL.move rfl rfl rfl ?_
  refine WL.call [.pointer (some ⟨q, 0, none⟩)] enter53 rfl rfl rfl (rn1_any q v c s _ hr hl) ?_
  rintro _ w1 ⟨rfl, rd1, f1⟩
  refine ⟨_, rfl, ?_⟩
  first | refine WL.assign rfl rfl rfl ?_
  refine WL.done ?_
  refine EW.on ?_
  refine EW.seq ?_
  refine EW.region ?_
  first | refine WL.move rfl rfl rfl ?_
  refine WL.call [.pointer (some ⟨q, 0, none⟩)] enter53 rfl rfl rfl (rn1_any q v c (rS c 1 s) _ rd1 hl) ?_
  rintro _ w2 ⟨rfl, rd2, f2⟩
  refine ⟨_, rfl, ?_⟩
  first | refine WL.assign rfl rfl rfl ?_
  refine WL.done ?_
  refine EW.on ?_
  refine EW.seq ?_
  refine EW.seq ?_
  refine EW.region ?_
  first | refine WL.move rfl rfl rfl ?_
  refine WL.call [.pointer (some ⟨q, 0, none⟩)] enter30 rfl rfl rfl (fault_any q v c (rS c 1 (rS c 1 s)) _ rd2) ?_
  rintro _ w3 ⟨fa, rfl, be3⟩
  refine ⟨_, rfl, ?_⟩
  first | refine WL.move rfl rfl rfl ?_
  first | refine WL.extract rfl rfl rfl (ext_2 _ _ _).1 ?_
  first | refine WL.extract rfl rfl rfl (ext_2 _ _ _).2 ?_
  first | refine WL.assign rfl rfl rfl ?_
  first | refine WL.assign rfl rfl rfl ?_
  refine WL.done ?_
  refine EW.on ?_
  refine EW.seq ?_
  refine EW.region ?_
  first | refine WL.move rfl rfl rfl ?_
  first | refine WL.bin rfl rfl rfl rfl (int_ne_f rfl _ _ _) ?_ | refine WL.bin rfl rfl rfl rfl (int_ne_t ‹_› _ _ _) ?_ | refine WL.bin rfl rfl rfl rfl (int_ne_f ‹_› _ _ _) ?_ | refine WL.bin rfl rfl rfl rfl (int_ne_t (by decide) _ _ _) ?_ | refine WL.bin rfl rfl rfl rfl (int_ne_d _ _ _ _ _) ?_
  refine WL.done ?_
  refine EW.on ?_
  refine EW.cond_d rfl (fun h17 => ?_) (fun h17 => ?_)
  · refine EW.seq ?_
    refine EW.region ?_
    first | refine WL.move rfl rfl rfl ?_
    first | refine WL.assign rfl rfl rfl ?_
    first | refine WL.assign rfl rfl rfl ?_
    refine WL.done ?_
    refine EW.on ?_
    refine EW.ret ?_
    refine pr_then ?_
    have hrd := rd2.below be3
    have hfx := (f1.and f2).then_below be3
    first
      | exact EW.returns2 Try.results31 rfl rfl ⟨by rw [show stE c s = (rS c 1 (rS c 1 s)).2 from by unfold stE s2R; rw [if_neg h17], show stK c s = 0 from by unfold stK stE s2R; rw [if_neg h17, if_neg h17]]; rfl, hrd, hfx⟩
      | exact EW.returns2 Try.results31 rfl rfl ⟨by rw [show stE c s = 140 from by unfold stE s2R; rw [if_pos (Classical.not_not.1 h17), if_neg (by omega)], show stK c s = 0 from by unfold stK stE s2R; rw [if_pos (Classical.not_not.1 h17), if_neg (show ¬ numB (rB c 1 s) = 1 by omega), if_neg (by decide)]]; rfl, hrd, hfx⟩
      | exact EW.returns2 Try.results31 rfl rfl ⟨by rw [show stE c s = 0 from by unfold stE s2R; rw [if_pos (Classical.not_not.1 h17), if_pos (by omega)], show stK c s = numB (rB c 1 (rS c 1 s)) from by unfold stK stE s2R; rw [if_pos (Classical.not_not.1 h17), if_pos (show numB (rB c 1 s) = 1 by omega), if_pos rfl]], hrd, hfx⟩
  · refine EW.skip ?_
    refine EW.on ?_
    refine EW.seq ?_
    refine EW.seq ?_
    refine EW.region ?_
    first | refine WL.move rfl rfl rfl ?_
    first | refine WL.bin rfl rfl rfl rfl (int_ne_f rfl _ _ _) ?_ | refine WL.bin rfl rfl rfl rfl (int_ne_t ‹_› _ _ _) ?_ | refine WL.bin rfl rfl rfl rfl (int_ne_f ‹_› _ _ _) ?_ | refine WL.bin rfl rfl rfl rfl (int_ne_t (by decide) _ _ _) ?_ | refine WL.bin rfl rfl rfl rfl (int_ne_d _ _ _ _ _) ?_
    refine WL.done ?_
    refine EW.on ?_
    refine EW.cond_d rfl (fun h20 => ?_) (fun h20 => ?_)
    · refine EW.seq ?_
      refine EW.region ?_
      first | refine WL.assign rfl rfl rfl ?_
      first | refine WL.assign rfl rfl rfl ?_
      refine WL.done ?_
      refine EW.on ?_
      refine EW.ret ?_
      refine pr_then ?_
      have hrd := rd2.below be3
      have hfx := (f1.and f2).then_below be3
      first
        | exact EW.returns2 Try.results31 rfl rfl ⟨by rw [show stE c s = (rS c 1 (rS c 1 s)).2 from by unfold stE s2R; rw [if_neg h17], show stK c s = 0 from by unfold stK stE s2R; rw [if_neg h17, if_neg h17]]; rfl, hrd, hfx⟩
        | exact EW.returns2 Try.results31 rfl rfl ⟨by rw [show stE c s = 140 from by unfold stE s2R; rw [if_pos (Classical.not_not.1 h17), if_neg (by omega)], show stK c s = 0 from by unfold stK stE s2R; rw [if_pos (Classical.not_not.1 h17), if_neg (show ¬ numB (rB c 1 s) = 1 by omega), if_neg (by decide)]]; rfl, hrd, hfx⟩
        | exact EW.returns2 Try.results31 rfl rfl ⟨by rw [show stE c s = 0 from by unfold stE s2R; rw [if_pos (Classical.not_not.1 h17), if_pos (by omega)], show stK c s = numB (rB c 1 (rS c 1 s)) from by unfold stK stE s2R; rw [if_pos (Classical.not_not.1 h17), if_pos (show numB (rB c 1 s) = 1 by omega), if_pos rfl]], hrd, hfx⟩
    · refine EW.skip ?_
      refine EW.on ?_
      refine EW.seq ?_
      refine EW.region ?_
      first | refine WL.move rfl rfl rfl ?_
      first | refine WL.assign rfl rfl rfl ?_
      first | refine WL.assign rfl rfl rfl ?_
      refine WL.done ?_
      refine EW.on ?_
      refine EW.ret ?_
      have hrd := rd2.below be3
      have hfx := (f1.and f2).then_below be3
      first
        | exact EW.returns2 Try.results31 rfl rfl ⟨by rw [show stE c s = (rS c 1 (rS c 1 s)).2 from by unfold stE s2R; rw [if_neg h17], show stK c s = 0 from by unfold stK stE s2R; rw [if_neg h17, if_neg h17]]; rfl, hrd, hfx⟩
        | exact EW.returns2 Try.results31 rfl rfl ⟨by rw [show stE c s = 140 from by unfold stE s2R; rw [if_pos (Classical.not_not.1 h17), if_neg (by omega)], show stK c s = 0 from by unfold stK stE s2R; rw [if_pos (Classical.not_not.1 h17), if_neg (show ¬ numB (rB c 1 s) = 1 by omega), if_neg (by decide)]]; rfl, hrd, hfx⟩
        | exact EW.returns2 Try.results31 rfl rfl ⟨by rw [show stE c s = 0 from by unfold stE s2R; rw [if_pos (Classical.not_not.1 h17), if_pos (by omega)], show stK c s = numB (rB c 1 (rS c 1 s)) from by unfold stK stE s2R; rw [if_pos (Classical.not_not.1 h17), if_pos (show numB (rB c 1 s) = 1 by omega), if_pos rfl]], hrd, hfx⟩
end Go.Proofs.Ytobfebpinkikdaa
