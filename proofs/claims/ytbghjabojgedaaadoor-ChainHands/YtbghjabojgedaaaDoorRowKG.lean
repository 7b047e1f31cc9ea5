import Derived.Test.YtbghjabojgedaaaDoorCa
import Derived.Test.YtbghjabojgedaaaDoorMac2
import Derived.Stop.LaidErr
import Derived.Test.YtbghjabojgedaaaDoorTurnG
import Derived.Test.YtbghjabojgedaaaDoorRefa
set_option linter.unusedVariables false
set_option linter.unusedSimpArgs false
namespace Go.Proofs.YtbghjabojgedaaaDoor
open Go.RowKit

theorem res_cc {P : Program} {fn : Func} {p q : Tmp} {ty : TypeId} (h : fn.results = #[.cell p ty, .cell q ty]) (tmps : Array Value) (w : World) (g k : Nat) (t t' : TypeId) (cs ds : Array Value) (fr fr' : Nat × Nat) (d : TypeDesc)
    (hp : tmps.getD p undef = .pointer (some ⟨g, 0, none⟩)) (hq : tmps.getD q undef = .pointer (some ⟨k, 0, none⟩)) (hg : w.heap[g]? = some (.cells cs t fr)) (hk : w.heap[k]? = some (.cells ds t' fr'))
    (hu : P.underlying ty = some d) (hd : (match d with | .struct _ | .array _ _ => true | _ => false) = true) (hi : (P.info? ty).map (·.size) = some cs.size) (hj : (P.info? ty).map (·.size) = some ds.size) :
    (results fn tmps).run P w = .ok (.tuple #[.agg cs, .agg ds]) w := by
  have hp' : tmps[p]?.getD undef = .pointer (some ⟨g, 0, none⟩) := by simpa using hp
  have hq' : tmps[q]?.getD undef = .pointer (some ⟨k, 0, none⟩) := by simpa using hq
  simp [results, h, hp', hq', asAddr, run_loadVar_row w g t ty cs fr d hg hu hd hi, run_loadVar_row w k t' ty ds fr' d hk hu hd hj]
theorem res_ctt {P : Program} {fn : Func} {p q r : Tmp} {ty : TypeId} (h : fn.results = #[.cell p ty, .tmp q, .tmp r]) (tmps : Array Value) (w : World) (g : Nat) (t : TypeId) (cs : Array Value) (fr : Nat × Nat) (d : TypeDesc) (v v' : Value)
    (hp : tmps.getD p undef = .pointer (some ⟨g, 0, none⟩)) (hq : tmps.getD q undef = v) (hr : tmps.getD r undef = v') (hg : w.heap[g]? = some (.cells cs t fr))
    (hu : P.underlying ty = some d) (hd : (match d with | .struct _ | .array _ _ => true | _ => false) = true) (hi : (P.info? ty).map (·.size) = some cs.size) :
    (results fn tmps).run P w = .ok (.tuple #[.agg cs, v, v']) w := by
  have hp' : tmps[p]?.getD undef = .pointer (some ⟨g, 0, none⟩) := by simpa using hp
  have hq' : tmps[q]?.getD undef = v := by simpa using hq
  have hr' : tmps[r]?.getD undef = v' := by simpa using hr
  simp [results, h, hp', hq', hr', asAddr, run_loadVar_row w g t ty cs fr d hg hu hd hi]
theorem u23 : Tryd.prog.underlying 23 = some (.array 32 5) := by kernel_rfl
section
variable {n : Nat} {e : List (Nat × Value)} {w : World}
/-- A key is returned. -/
theorem EW.retK {fn : Func} {R : Ending → World → Prop} {t : Nat} {ty' : TypeId} {g : Nat} {K : List UInt8} (hres : fn.results = #[.cell t 23]) (hv : e.lookup t = some (.pointer (some ⟨g, 0, none⟩))) (hg : Blk w g (K.map byt) ty') (hK : K.length = 32) (h : R (.returned (kv K)) w) : ∀ a, Env n a e → bodyPost Tryd.prog fn R .ret a w :=
  EW.returnsC hres hv hg u23 rfl (i23 hK) h
theorem EW.retKK {fn : Func} {R : Ending → World → Prop} {t u : Nat} {ty' ty'' : TypeId} {g k : Nat} {K L : List UInt8} (hres : fn.results = #[.cell t 23, .cell u 23]) (hv : e.lookup t = some (.pointer (some ⟨g, 0, none⟩))) (hv' : e.lookup u = some (.pointer (some ⟨k, 0, none⟩))) (hg : Blk w g (K.map byt) ty') (hk : Blk w k (L.map byt) ty'') (hK : K.length = 32) (hL : L.length = 32) (h : R (.returned (.tuple #[kv K, kv L])) w) : ∀ a, Env n a e → bodyPost Tryd.prog fn R .ret a w := fun a ha =>
  bodyPost_ret (v := .tuple #[kv K, kv L]) (res_cc hres a.tmps w g k ty' ty'' _ _ (0, 0) (0, 0) _ (ha.kn t _ hv) (ha.kn u _ hv') hg hk u23 rfl (by simpa using i23 hK) (by simpa using i23 hL)) ha.df h
theorem EW.retKTT {fn : Func} {R : Ending → World → Prop} {t u x : Nat} {ty' : TypeId} {g : Nat} {K : List UInt8} {v v' : Value} (hres : fn.results = #[.cell t 23, .tmp u, .tmp x]) (hv : e.lookup t = some (.pointer (some ⟨g, 0, none⟩))) (hv' : e.lookup u = some v) (hv'' : e.lookup x = some v') (hg : Blk w g (K.map byt) ty') (hK : K.length = 32) (h : R (.returned (.tuple #[kv K, v, v'])) w) : ∀ a, Env n a e → bodyPost Tryd.prog fn R .ret a w := fun a ha =>
  bodyPost_ret (v := .tuple #[kv K, v, v']) (res_ctt hres a.tmps w g ty' _ (0, 0) _ v v' (ha.kn t _ hv) (ha.kn u _ hv') (ha.kn x _ hv'') hg u23 rfl (by simpa using i23 hK)) ha.df h
end
theorem Kst.on {w w' : World} (h : Kst w) (hb : Below w.heap.size w w') : Kst w' := h.below hb h.lt
set_option maxRecDepth 100000 in
set_option maxHeartbeats 1000000 in
theorem under_any (K D : List UInt8) (hK : K.length = 32) (b : UInt8) (hD : macOf K [b] = D) (w : World) (hS : Kst w) : Calls Tryd.prog 15 #[kv K, .int .u8 (b.toNat : Int)] w fun e w' => e = .returned (kv D) ∧ Below w.heap.size w w' := by
  have hDl : D.length = 32 := by rw [← hD]; exact macOf_length _ _
  obtain ⟨w1, q, r1, b1, l1, hq⟩ := box23 K w
  obtain ⟨w2, p, r2, b2, l2, hp⟩ := new23 w1
  refine calls_of_args [kv K, .int .u8 (b.toNat : Int)] Tryd.func15 rfl 10 Tryd.ntmps15 (by show 2 ≤ 10; decide) ?_
  refine EW.seq ?_
  refine EW.region ?_
  refine WL.box rfl rfl rfl r1 ?_
  refine WL.new rfl rfl r2 ?_
  refine WL.done ?_
  refine EW.on ?_
  refine EW.seq ?_
  refine EW.region ?_
  refine WL.slice0 rfl rfl rfl (sl23 _ _) ?_
  first | refine WL.move rfl rfl rfl ?_
  refine WL.bslN [(0, .int .u8 (b.toNat : Int))] rfl rfl rfl (bsl1 b _) ?_
  refine WL.bslN [(0, .slice (some ⟨w2.heap.size, 0, none⟩) 1 1)] rfl rfl rfl (bsl43 _ ⟨_, _, _, rfl⟩ _) ?_
  refine WL.call [.slice (some ⟨q, 0, none⟩) 32 32, .slice (some ⟨(w2.alloc (.cells #[byt b] 5)).heap.size, 0, none⟩) 1 1] enter9 rfl rfl rfl (mac_at (w2.alloc (.cells #[byt b] 5)) _ rfl (.slice (some ⟨q, 0, none⟩) 32 32) K [b] D [(.slice (some ⟨w2.heap.size, 0, none⟩) 1 1, [b])] rfl hD (((b1.on l2).on (below_new w2 _)).has 32 hK) (fun p hp => ?_) (((hS.on l1).on l2).on (below_new w2 _)) (by rw [hK]; decide) (by simp) (by simp)) ?_
  · obtain rfl := List.mem_singleton.1 hp
    exact has_new1 w2 b
  rintro e w3 ⟨rfl, l3⟩
  refine ⟨_, rfl, ?_⟩
  obtain ⟨w4, r4, b4, f4⟩ := st23 (((b2.on (below_new w2 _))).on l3) z32l hDl
  refine WL.store rfl rfl rfl r4 ?_
  refine WL.done ?_
  refine EW.on ?_
  refine EW.ret ?_
  exact EW.retK Tryd.results15 rfl b4 hDl ⟨rfl, (((l1.trans (l2.mono l1.size)).trans ((below_new w2 _).mono (by have := l1.size; have := l2.size; omega))).trans (l3.mono (by have := l1.size; have := l2.size; have := (below_new w2 (.cells #[byt b] 5)).size; omega))).trans (f4.below (fun k hk e => by have e : k = p := e; have := l1.size; omega) (by have := l1.size; have := l2.size; have := (below_new w2 (.cells #[byt b] 5)).size; have := l3.size; omega))⟩
end Go.Proofs.YtbghjabojgedaaaDoor

set_option linter.unusedVariables false
set_option linter.unusedSimpArgs false
namespace Go.Proofs.YtbghjabojgedaaaDoor
open Go.ChangeShapes Go.WideShapes Go.ChangeAt Go.RowKit
namespace Row
theorem cells23 : Tryd.prog.cellsOf 23 = 32 := by kernel_rfl
/-- An array of numbers that came in. -/
theorem row_of_trod {H : Type} {enc : TypeId × Value → H} {P : Program} {W : World} {base : Nat} {spare : Nat → Bool} {held : Bool} {fuel : Nat} {t e : TypeId} {n : Nat} {k : IntKind} {cs : List Value} {x : DataW H × List MemPlace} (ht : P.underlying t = some (.array n e)) (he : P.underlying e = some (.int k)) (hce : P.cellsOf e = 1) (hct : P.cellsOf t = n)
    (h : DataW.trod enc P W base spare held fuel t cs = some x) : ∃ zs : List Int, zs.length = n ∧ cs = zs.map (Value.int k) ∧ ∀ z ∈ zs, (Lit.int k z).wf = true := by
  obtain ⟨xs, m, _, _, hl, hlen, hf⟩ := DataW.trod_array ht h
  rw [hct] at hl
  obtain ⟨F, hF⟩ := Deep.choose_lt (α := Int) (n := n) (p := fun i z => cs[i]? = some (.int k z) ∧ (Lit.int k z).wf = true) (fun i hi => by
    have h1 := hf i hi
    rw [hce, List.getElem?_eq_getElem (by omega)] at h1
    obtain ⟨z, e0, _, wf⟩ := DataW.trod_int he h1
    refine ⟨z, ?_, wf⟩
    have h2 : ((cs.drop (i * 1)).take 1)[0]? = some (.int k z) := by rw [e0]; rfl
    simpa using h2)
  refine ⟨(List.range n).map F, by simp, List.ext_getElem? fun i => ?_, fun z hz => ?_⟩
  · rcases Nat.lt_or_ge i n with hi | hi
    · rw [(hF i hi).1]; simp [hi]
    · rw [List.getElem?_eq_none (by omega), List.getElem?_eq_none (by simp; omega)]
  · obtain ⟨i, hi, rfl⟩ := List.mem_map.1 hz
    exact (hF i (List.mem_range.1 hi)).2
theorem bytes_row (zs : List Int) (h : ∀ z ∈ zs, (Lit.int .u8 z).wf = true) : zs.map (Value.int .u8) = (zs.map fun z => UInt8.ofNat z.toNat).map byt := by
  rw [List.map_map]
  refine List.map_congr_left fun z hz => ?_
  have hb := wf_byte (h z hz)
  simp only [Function.comp, byt]
  rw [UInt8.toNat_ofNat', Nat.mod_eq_of_lt (by omega)]
  congr 1
  omega

/-- A key that came in. -/
theorem key_of {H : Type} {enc : TypeId × Value → H} {W : World} {base : Nat} {v : Value} {d : DataW H} {p : List MemPlace} (hv : Value.okWide Tryd.prog W .any base 23 v) (h : ∃ m, DataW.trod enc Tryd.prog W 0 (fun _ => true) true m 23 v.cells.toList = some (d, p)) :
    ∃ k : List UInt8, k.length = 32 ∧ v = .agg (k.map byt).toArray := by
  simp only [Value.okWide, u23] at hv
  obtain ⟨cs, rfl, _, _⟩ := hv
  obtain ⟨fuel, hf⟩ := h
  obtain ⟨zs, hl, hc, hw⟩ := row_of_trod u23 Tryd.underlying5 cells5 cells23 hf
  refine ⟨zs.map fun z => UInt8.ofNat z.toNat, by simp [hl], ?_⟩
  rw [← bytes_row zs hw, ← hc]
  simp [Value.cells]
/-- The three laid tables. -/
theorem consts3 {W : World} (n1 n2 n0 : String) (g1 : Tryd.prog.globalNamed n1 = some 2) (g2 : Tryd.prog.globalNamed n2 = some 1) (g0 : Tryd.prog.globalNamed n0 = some 0)
    (h : laidMetH Tryd.prog [(n1, Rows.laid_lethe_letheref02_constants), (n2, Rows.laid_lethe_letheref02_begin), (n0, Rows.laid_lethe_sha_constants)] W) : Kst W ∧ Rst W ∧ Bst W := by
  have hm : laidMet Tryd.prog [(n1, Rows.laid_lethe_letheref02_constants), (n2, Rows.laid_lethe_letheref02_begin), (n0, Rows.laid_lethe_sha_constants)] W := h
  have hm1 := hm.tail
  have hm2 := hm1.tail
  refine ⟨consts_of n0 g0 hm2, fun t ht => ?_, fun t ht => ?_⟩
  · rw [kw_wn t ht]
    have htab : Lib.TabIs Tryd.prog W n1 .u64 (Kn.map (fun n : Nat => (n : Int))) := Lib.tabIs_of_head (t := 80) (e := 74) (n := 64) g1 (by kernel_rfl) (by kernel_rfl) (by kernel_rfl) (by kernel_rfl) (by kernel_rfl) hm
    have hl : t < (Kn.map (fun n : Nat => (n : Int))).length := by rw [List.length_map, kn_length]; exact ht
    have := htab.cell g1 t hl
    simpa [List.getD_eq_getElem?_getD, List.getElem?_eq_getElem hl] using this
  · have htab : Lib.TabIs Tryd.prog W n2 .u64 (iv.map wn) := Lib.tabIs_of_head (t := 79) (e := 74) (n := 8) g2 (by kernel_rfl) (by kernel_rfl) (by kernel_rfl) (by kernel_rfl) (by kernel_rfl) hm1
    have hl : t < (iv.map wn).length := by rw [List.length_map, iv_length]; exact ht
    have := htab.cell g2 t hl
    rw [this]
    congr 2
    rw [List.getD_eq_getElem?_getD, List.getElem?_eq_getElem hl, List.getElem_map, List.getD_eq_getElem?_getD, List.getElem?_eq_getElem (by rw [iv_length]; exact ht)]
    rfl
end Row
end Go.Proofs.YtbghjabojgedaaaDoor
