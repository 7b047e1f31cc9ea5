import Derived.Test.YtnfikgnploockaaDoorCa
set_option linter.unusedVariables false
set_option linter.unusedSimpArgs false
namespace Go.Proofs.YtnfikgnploockaaDoor
open Go.RowKit

theorem res_cc {P : Program} {fn : Func} {p q : Tmp} {ty : TypeId} (h : fn.results = #[.cell p ty, .cell q ty]) (tmps : Array Value) (w : World) (g k : Nat) (t t' : TypeId) (cs ds : Array Value) (fr fr' : Nat × Nat) (d : TypeDesc)
    (hp : tmps.getD p undef = .pointer (some ⟨g, 0, none⟩)) (hq : tmps.getD q undef = .pointer (some ⟨k, 0, none⟩)) (hg : w.heap[g]? = some (.cells cs t fr)) (hk : w.heap[k]? = some (.cells ds t' fr'))
    (hu : P.underlying ty = some d) (hd : (match d with | .struct _ | .array _ _ => true | _ => false) = true) (hi : (P.info? ty).map (·.size) = some cs.size) (hj : (P.info? ty).map (·.size) = some ds.size) :
    (results fn tmps).run P w = .ok (.tuple #[.agg cs, .agg ds]) w := by
  have hp' : tmps[p]?.getD undef = .pointer (some ⟨g, 0, none⟩) := by simpa using hp
  have hq' : tmps[q]?.getD undef = .pointer (some ⟨k, 0, none⟩) := by simpa using hq
  simp [results, h, hp', hq', asAddr, run_loadVar_row w g t ty cs fr d hg hu hd hi, run_loadVar_row w k t' ty ds fr' d hk hu hd hj]
theorem res_ctt {P : Program} {fn : Func} {p q r : Tmp} {ty : TypeId} (h : fn.results = #[.cell p ty, .tmp q, .tmp r]) (tmps : Array Value) (w : World) (g : Nat) (t : TypeId) (cs : Array Value) (fr : Nat × Nat) (d : TypeDesc) (v v' : Value)
    (hp : tmps.getD p undef = .pointer (some ⟨g, 0, none⟩)) (hq : tmps.getD q undef = v) (hr : tmps.getD r undef = v') (hg : w.heap[g]? = some (.cells cs t fr))
    (hu : P.underlying ty = some d) (hd : (match d with | .struct _ | .array _ _ => true | _ => false) = true) (hi : (P.info? ty).map (·.size) = some cs.size) :
    (results fn tmps).run P w = .ok (.tuple #[.agg cs, v, v']) w := by
  have hp' : tmps[p]?.getD undef = .pointer (some ⟨g, 0, none⟩) := by simpa using hp
  have hq' : tmps[q]?.getD undef = v := by simpa using hq
  have hr' : tmps[r]?.getD undef = v' := by simpa using hr
  simp [results, h, hp', hq', hr', asAddr, run_loadVar_row w g t ty cs fr d hg hu hd hi]
theorem u23 : Tryd.prog.underlying 23 = some (.array 32 5) := by kernel_rfl
section
variable {n : Nat} {e : List (Nat × Value)} {w : World}
/-- A key is returned. -/
theorem EW.retK {fn : Func} {R : Ending → World → Prop} {t : Nat} {ty' : TypeId} {g : Nat} {K : List UInt8} (hres : fn.results = #[.cell t 23]) (hv : e.lookup t = some (.pointer (some ⟨g, 0, none⟩))) (hg : Blk w g (K.map byt) ty') (hK : K.length = 32) (h : R (.returned (kv K)) w) : ∀ a, Env n a e → bodyPost Tryd.prog fn R .ret a w :=
  EW.returnsC hres hv hg u23 rfl (i23 hK) h
theorem EW.retKK {fn : Func} {R : Ending → World → Prop} {t u : Nat} {ty' ty'' : TypeId} {g k : Nat} {K L : List UInt8} (hres : fn.results = #[.cell t 23, .cell u 23]) (hv : e.lookup t = some (.pointer (some ⟨g, 0, none⟩))) (hv' : e.lookup u = some (.pointer (some ⟨k, 0, none⟩))) (hg : Blk w g (K.map byt) ty') (hk : Blk w k (L.map byt) ty'') (hK : K.length = 32) (hL : L.length = 32) (h : R (.returned (.tuple #[kv K, kv L])) w) : ∀ a, Env n a e → bodyPost Tryd.prog fn R .ret a w := fun a ha =>
  bodyPost_ret (v := .tuple #[kv K, kv L]) (res_cc hres a.tmps w g k ty' ty'' _ _ (0, 0) (0, 0) _ (ha.kn t _ hv) (ha.kn u _ hv') hg hk u23 rfl (by simpa using i23 hK) (by simpa using i23 hL)) ha.df h
theorem EW.retKTT {fn : Func} {R : Ending → World → Prop} {t u x : Nat} {ty' : TypeId} {g : Nat} {K : List UInt8} {v v' : Value} (hres : fn.results = #[.cell t 23, .tmp u, .tmp x]) (hv : e.lookup t = some (.pointer (some ⟨g, 0, none⟩))) (hv' : e.lookup u = some v) (hv'' : e.lookup x = some v') (hg : Blk w g (K.map byt) ty') (hK : K.length = 32) (h : R (.returned (.tuple #[kv K, v, v'])) w) : ∀ a, Env n a e → bodyPost Tryd.prog fn R .ret a w := fun a ha =>
  bodyPost_ret (v := .tuple #[kv K, v, v']) (res_ctt hres a.tmps w g ty' _ (0, 0) _ v v' (ha.kn t _ hv) (ha.kn u _ hv') (ha.kn x _ hv'') hg u23 rfl (by simpa using i23 hK)) ha.df h
end
theorem Kst.on {w w' : World} (h : Kst w) (hb : Below w.heap.size w w') : Kst w' := h.below hb h.lt
end Go.Proofs.YtnfikgnploockaaDoor
