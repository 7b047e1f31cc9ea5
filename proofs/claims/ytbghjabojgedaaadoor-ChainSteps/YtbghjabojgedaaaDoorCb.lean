import Derived.Test.YtbghjabojgedaaaDoorCa
import Derived.Test.YtbghjabojgedaaaDoorMac2
set_option linter.unusedVariables false
set_option linter.unusedSimpArgs false
namespace Go.Proofs.YtbghjabojgedaaaDoor
open Go.RowKit

theorem res_cc {P : Program} {fn : Func} {p q : Tmp} {ty : TypeId} (h : fn.results = #[.cell p ty, .cell q ty]) (tmps : Array Value) (w : World) (g k : Nat) (t t' : TypeId) (cs ds : Array Value) (fr fr' : Nat × Nat) (d : TypeDesc)
    (hp : tmps.getD p undef = .pointer (some ⟨g, 0, none⟩)) (hq : tmps.getD q undef = .pointer (some ⟨k, 0, none⟩)) (hg : w.heap[g]? = some (.cells cs t fr)) (hk : w.heap[k]? = some (.cells ds t' fr'))
    (hu : P.underlying ty = some d) (hd : (match d with | .struct _ | .array _ _ => true | _ => false) = true) (hi : (P.info? ty).map (·.size) = some cs.size) (hj : (P.info? ty).map (·.size) = some ds.size) :
    (results fn tmps).run P w = .ok (.tuple #[.agg cs, .agg ds]) w := by
  have hp' : tmps[p]?.getD undef = .pointer (some ⟨g, 0, none⟩) := by simpa using hp
  have hq' : tmps[q]?.getD undef = .pointer (some ⟨k, 0, none⟩) := by simpa using hq
  simp [results, h, hp', hq', asAddr, run_loadVar_row w g t ty cs fr d hg hu hd hi, run_loadVar_row w k t' ty ds fr' d hk hu hd hj]
theorem res_ctt {P : Program} {fn : Func} {p q r : Tmp} {ty : TypeId} (h : fn.results = #[.cell p ty, .tmp q, .tmp r]) (tmps : Array Value) (w : World) (g : Nat) (t : TypeId) (cs : Array Value) (fr : Nat × Nat) (d : TypeDesc) (v v' : Value)
    (hp : tmps.getD p undef = .pointer (some ⟨g, 0, none⟩)) (hq : tmps.getD q undef = v) (hr : tmps.getD r undef = v') (hg : w.heap[g]? = some (.cells cs t fr))
    (hu : P.underlying ty = some d) (hd : (match d with | .struct _ | .array _ _ => true | _ => false) = true) (hi : (P.info? ty).map (·.size) = some cs.size) :
    (results fn tmps).run P w = .ok (.tuple #[.agg cs, v, v']) w := by
  have hp' : tmps[p]?.getD undef = .pointer (some ⟨g, 0, none⟩) := by simpa using hp
  have hq' : tmps[q]?.getD undef = v := by simpa using hq
  have hr' : tmps[r]?.getD undef = v' := by simpa using hr
  simp [results, h, hp', hq', hr', asAddr, run_loadVar_row w g t ty cs fr d hg hu hd hi]
theorem u23 : Tryd.prog.underlying 23 = some (.array 32 5) := by kernel_rfl
section
variable {n : Nat} {e : List (Nat × Value)} {w : World}
/-- A key is returned. -/
theorem EW.retK {fn : Func} {R : Ending → World → Prop} {t : Nat} {ty' : TypeId} {g : Nat} {K : List UInt8} (hres : fn.results = #[.cell t 23]) (hv : e.lookup t = some (.pointer (some ⟨g, 0, none⟩))) (hg : Blk w g (K.map byt) ty') (hK : K.length = 32) (h : R (.returned (kv K)) w) : ∀ a, Env n a e → bodyPost Tryd.prog fn R .ret a w :=
  EW.returnsC hres hv hg u23 rfl (i23 hK) h
theorem EW.retKK {fn : Func} {R : Ending → World → Prop} {t u : Nat} {ty' ty'' : TypeId} {g k : Nat} {K L : List UInt8} (hres : fn.results = #[.cell t 23, .cell u 23]) (hv : e.lookup t = some (.pointer (some ⟨g, 0, none⟩))) (hv' : e.lookup u = some (.pointer (some ⟨k, 0, none⟩))) (hg : Blk w g (K.map byt) ty') (hk : Blk w k (L.map byt) ty'') (hK : K.length = 32) (hL : L.length = 32) (h : R (.returned (.tuple #[kv K, kv L])) w) : ∀ a, Env n a e → bodyPost Tryd.prog fn R .ret a w := fun a ha =>
  bodyPost_ret (v := .tuple #[kv K, kv L]) (res_cc hres a.tmps w g k ty' ty'' _ _ (0, 0) (0, 0) _ (ha.kn t _ hv) (ha.kn u _ hv') hg hk u23 rfl (by simpa using i23 hK) (by simpa using i23 hL)) ha.df h
theorem EW.retKTT {fn : Func} {R : Ending → World → Prop} {t u x : Nat} {ty' : TypeId} {g : Nat} {K : List UInt8} {v v' : Value} (hres : fn.results = #[.cell t 23, .tmp u, .tmp x]) (hv : e.lookup t = some (.pointer (some ⟨g, 0, none⟩))) (hv' : e.lookup u = some v) (hv'' : e.lookup x = some v') (hg : Blk w g (K.map byt) ty') (hK : K.length = 32) (h : R (.returned (.tuple #[kv K, v, v'])) w) : ∀ a, Env n a e → bodyPost Tryd.prog fn R .ret a w := fun a ha =>
  bodyPost_ret (v := .tuple #[kv K, v, v']) (res_ctt hres a.tmps w g ty' _ (0, 0) _ v v' (ha.kn t _ hv) (ha.kn u _ hv') (ha.kn x _ hv'') hg u23 rfl (by simpa using i23 hK)) ha.df h
end
theorem Kst.on {w w' : World} (h : Kst w) (hb : Below w.heap.size w w') : Kst w' := h.below hb h.lt
set_option maxRecDepth 100000 in
set_option maxHeartbeats 1000000 in
theorem under_any (K D : List UInt8) (hK : K.length = 32) (b : UInt8) (hD : macOf K [b] = D) (w : World) (hS : Kst w) : Calls Tryd.prog 15 #[kv K, .int .u8 (b.toNat : Int)] w fun e w' => e = .returned (kv D) ∧ Below w.heap.size w w' := by
  have hDl : D.length = 32 := by rw [← hD]; exact macOf_length _ _
  obtain ⟨w1, q, r1, b1, l1, hq⟩ := box23 K w
  obtain ⟨w2, p, r2, b2, l2, hp⟩ := new23 w1
  refine calls_of_args [kv K, .int .u8 (b.toNat : Int)] Tryd.func15 rfl 10 Tryd.ntmps15 (by show 2 ≤ 10; decide) ?_
  refine EW.seq ?_
  refine EW.region ?_
  refine WL.box rfl rfl rfl r1 ?_
  refine WL.new rfl rfl r2 ?_
  refine WL.done ?_
  refine EW.on ?_
  refine EW.seq ?_
  refine EW.region ?_
  refine WL.slice0 rfl rfl rfl (sl23 _ _) ?_
  first | refine WL.move rfl rfl rfl ?_
  refine WL.bslN [(0, .int .u8 (b.toNat : Int))] rfl rfl rfl (bsl1 b _) ?_
  refine WL.bslN [(0, .slice (some ⟨w2.heap.size, 0, none⟩) 1 1)] rfl rfl rfl (bsl43 _ ⟨_, _, _, rfl⟩ _) ?_
  refine WL.call [.slice (some ⟨q, 0, none⟩) 32 32, .slice (some ⟨(w2.alloc (.cells #[byt b] 5)).heap.size, 0, none⟩) 1 1] enter9 rfl rfl rfl (mac_at (w2.alloc (.cells #[byt b] 5)) _ rfl (.slice (some ⟨q, 0, none⟩) 32 32) K [b] D [(.slice (some ⟨w2.heap.size, 0, none⟩) 1 1, [b])] rfl hD (((b1.on l2).on (below_new w2 _)).has 32 hK) (fun p hp => ?_) (((hS.on l1).on l2).on (below_new w2 _)) (by rw [hK]; decide) (by simp) (by simp)) ?_
  · obtain rfl := List.mem_singleton.1 hp
    exact has_new1 w2 b
  rintro e w3 ⟨rfl, l3⟩
  refine ⟨_, rfl, ?_⟩
  obtain ⟨w4, r4, b4, f4⟩ := st23 (((b2.on (below_new w2 _))).on l3) z32l hDl
  refine WL.store rfl rfl rfl r4 ?_
  refine WL.done ?_
  refine EW.on ?_
  refine EW.ret ?_
  exact EW.retK Tryd.results15 rfl b4 hDl ⟨rfl, (((l1.trans (l2.mono l1.size)).trans ((below_new w2 _).mono (by have := l1.size; have := l2.size; omega))).trans (l3.mono (by have := l1.size; have := l2.size; have := (below_new w2 (.cells #[byt b] 5)).size; omega))).trans (f4.below (fun k hk e => by have e : k = p := e; have := l1.size; omega) (by have := l1.size; have := l2.size; have := (below_new w2 (.cells #[byt b] 5)).size; have := l3.size; omega))⟩
end Go.Proofs.YtbghjabojgedaaaDoor
