import Derived.Test.YthlpfpggjkocmaaRdG
import Derived.Test.YthlpfpggjkocmaaOrd
set_option linter.unusedVariables false
set_option linter.unusedSimpArgs false
namespace Go.Proofs.Ythlpfpggjkocmaa
open Go.RowKit

/-- Without its loss. -/
def unkL (L : Lay) : Lay := ⟨L.p, L.gi, L.gn, L.vp, .slice none 0 0, L.gs⟩
theorem unk_own (L : Lay) (k : Nat) (h : (unkL L).F k) : L.F k := by
  rcases h with h | h | h | h | h | h
  · exact .inl h
  · exact .inr (.inl h)
  · exact .inr (.inr (.inl h))
  · exact .inr (.inr (.inr (.inl h)))
  · simp [unkL, Value.ownBlock] at h
  · exact .inr (.inr (.inr (.inr (.inr h))))
/-- It runs again. -/
def upD (D : Dv) : Dv := ⟨D.n, D.img, D.pen, 0, [], 0, 0, false, D.calls⟩
/-- Behind a disarming. -/
theorem Dev.disarmed {w w' : World} {L : Lay} {D : Dv} (h : Dev w L D) (hf : Fx (One L.p) w w') (down : Bool) (hP : Blk w' L.p (dvC L.gi D.n L.vp L.gn 0 (.slice none 0 0) 0 0 down D.calls) 90) : Dev w' (unkL L) ⟨D.n, D.img, D.pen, 0, [], 0, 0, down, D.calls⟩ :=
  { dev := hP, img := h.img.fx hf (Ne.symm h.pi), new := h.new.fx hf (Ne.symm h.pn), pen := ownsRow_fx h.pen hf (fun k hk e => (h.vpn k hk).1 e),
    bys := fun k g x h1 h2 => (h.bys k g x h1 h2).fx hf (fun e => (h.gsn g (List.mem_of_getElem? h1)).1 e), gsl := h.gsl, kp := Has64.nil _,
    ok := ⟨h.ok.n1, h.ok.n2, h.ok.len, h.ok.sec, h.ok.few, h.ok.cal⟩, pi := h.pi, pn := h.pn, inn := h.inn,
    vpn := fun k hk => ⟨(h.vpn k hk).1, (h.vpn k hk).2.1, (h.vpn k hk).2.2.1, by simp [unkL, Value.ownBlock], (h.vpn k hk).2.2.2.2⟩,
    vkn := fun k hk => by simp [unkL, Value.ownBlock] at hk,
    gsn := fun k hk => ⟨(h.gsn k hk).1, (h.gsn k hk).2.1, (h.gsn k hk).2.2.1, Nat.lt_of_lt_of_le (h.gsn k hk).2.2.2 hf.size⟩ }
end Go.Proofs.Ythlpfpggjkocmaa

set_option linter.unusedVariables false
set_option linter.unusedSimpArgs false
namespace Go.Proofs.Ythlpfpggjkocmaa
open Go.RowKit

section
variable {P : Program} {ops : Array Oper}
theorem OpTo.mks {o : Oper} {a : Act} {w w1 : World} (t : TypeId) (x y : Operand) (ho : o.op = .makeSlice t x y) (u u' v : Value) (hx : a.eval x = u) (hy : a.eval y = u') (h : (Instr.makeSlice t u u').run P w = .ok v w1) : OpTo P o a w v (fun W => W = w1) := by
  refine .inl ⟨w1, ?_, rfl⟩
  unfold execOp
  simp only [ho, hx, hy, Sem.run_bind, h, Result.andThen_ok, Sem.run_pure]
theorem OpTo.storeMid {op : Oper} {a : Act} {w : World} (ty : TypeId) (x y : Operand) (ho : op.op = .store ty x y) (b o : Nat) (cs : List Value) (hx : a.eval x = .pointer (some ⟨b, o, none⟩)) (hy : a.eval y = .agg cs.toArray)
    (ht : w.there b o cs.length) (hi : (P.info? ty).map (·.size) = some cs.length) (h1 : cs.toArray.all (·.oneCell') = true) : OpTo P op a w undef (fun W => W = w.setCells b o cs) := by
  refine .inr (.inl ⟨rfl, _, ?_, rfl⟩)
  unfold execOp
  simp only [ho, hx, hy, Instr.storeAt, Instr.sureAddr, Sem.run_bind, Sem.run_pure, Result.andThen_ok, run_storeVar_mid w b o ty cs.toArray (by simpa using ht) (by simpa using hi) h1]
theorem OpTo.copy {o : Oper} {a : Act} {w w1 : World} (t s : TypeId) (x y : Operand) (ho : o.op = .call { callee := .builtin .copy, args := #[x, y], argTypes := #[t, s] }) (u u' v : Value) (hx : a.eval x = u) (hy : a.eval y = u') (h : (Builtin.copy_ #[t, s] o.type #[u, u']).run P w = .ok v w1) : OpTo P o a w v (fun W => W = w1) := by
  refine .inl ⟨w1, ?_, rfl⟩
  simp [execOp, ho, resolve, invoke, builtin, hx, hy, h, Result.andThen]
theorem OpTo.build3 {o : Oper} {a : Act} {w : World} (t : TypeId) (x y z : Operand) (ho : o.op = .build t #[(0, x), (1, y), (2, z)]) (u u' u'' v : Value) (hx : a.eval x = u) (hy : a.eval y = u') (hz : a.eval z = u'') (h : (Instr.build t #[(0, u), (1, u'), (2, u'')]).run P w = .ok v w) : OpTo P o a w v (fun W => W = w) := by
  refine .inl ⟨w, ?_, rfl⟩
  unfold execOp
  simp only [ho, List.map_toArray, List.map_cons, List.map_nil, hx, hy, hz, Sem.run_bind, h, Result.andThen_ok, Sem.run_pure]
end
theorem build38s (ad : Option Addr) (l c : Nat) (t o : Int) (W : World) : (Instr.build 88 #[(0, .slice ad l c), (1, .int .i64 t), (2, .int .i64 o)]).run Try.prog W = .ok (.agg (lossC (.slice ad l c) t o).toArray) W := by kernel_rfl
theorem lossC_oneA (ad : Option Addr) (l c : Nat) (t o : Int) : (lossC (.slice ad l c) t o).toArray.all (·.oneCell') = true := all_oneCell_toArray fun v hv => by
  simp only [lossC, List.mem_cons, List.not_mem_nil, or_false] at hv
  rcases hv with rfl | rfl | rfl <;> rfl
/-- Armed with a loss. -/
def armD (D : Dv) (step : Nat) (ks : List (BitVec 64)) (torn off : Int) : Dv := ⟨D.n, D.img, D.pen, step, ks, torn, off, D.down, D.calls⟩
def armL (L : Lay) (v : Value) : Lay := ⟨L.p, L.gi, L.gn, L.vp, v, L.gs⟩
theorem Has64.len2 {w : World} {v : Value} {bs : List (BitVec 64)} (h : Has64 w v bs) : ∀ W ty, (Builtin.len_ #[86] ty #[v]).run Try.prog W = .ok (.int .i64 (bs.length : Int)) W := fun W ty => h.len W ty
/-- Behind an arming. -/
theorem Dev.armed {w w' : World} {L : Lay} {D : Dv} (h : Dev w L D) (g : Nat) (hg : w.heap.size ≤ g) (hgl : g < w'.heap.size) (hf : Fx (One L.p) w w') (step : Nat) (ks : List (BitVec 64)) (torn off : Int) (hP : Blk w' L.p (dvC L.gi D.n L.vp L.gn step (.slice (some ⟨g, 0, none⟩) ks.length ks.length) torn off D.down D.calls) 90) (hK : Blk w' g (ks.map wv) 134) : Dev w' (armL L (.slice (some ⟨g, 0, none⟩) ks.length ks.length)) (armD D step ks torn off) :=
  { dev := hP, img := h.img.fx hf (Ne.symm h.pi), new := h.new.fx hf (Ne.symm h.pn), pen := ownsRow_fx h.pen hf (fun k hk e => (h.vpn k hk).1 e),
    bys := fun k g x h1 h2 => (h.bys k g x h1 h2).fx hf (fun e => (h.gsn g (List.mem_of_getElem? h1)).1 e), gsl := h.gsl,
    kp := .inr ⟨⟨g, 0, none⟩, ks.length, rfl, Nat.le_refl _, fun i u hu => by
      have hu2 : ks[i]? = some u := hu
      rw [add_plain, hK.cell, List.getElem?_map, hu2]; rfl⟩,
    ok := ⟨h.ok.n1, h.ok.n2, h.ok.len, h.ok.sec, h.ok.few, h.ok.cal⟩, pi := h.pi, pn := h.pn, inn := h.inn,
    vpn := fun k hk => ⟨(h.vpn k hk).1, (h.vpn k hk).2.1, (h.vpn k hk).2.2.1, fun e => by
      have h1 := ownsRow_lt h.pen k hk
      simp [armL, Value.ownBlock] at e
      omega, (h.vpn k hk).2.2.2.2⟩,
    vkn := fun k hk => by
      have e : g = k := by simpa [armL, Value.ownBlock] using hk
      have h1 := h.dev.lt
      have h2 := h.img.lt
      have h3 := h.new.lt
      refine ⟨?_, ?_, ?_, by omega⟩ <;> simp only [armL] <;> omega,
    gsn := fun k hk => ⟨(h.gsn k hk).1, (h.gsn k hk).2.1, (h.gsn k hk).2.2.1, Nat.lt_of_lt_of_le (h.gsn k hk).2.2.2 hf.size⟩ }
theorem Fx.new {S : Nat → Prop} (w : World) (o : Obj) : Fx S w (w.alloc o) := Fx.of_below (below_new w o)
end Go.Proofs.Ythlpfpggjkocmaa
