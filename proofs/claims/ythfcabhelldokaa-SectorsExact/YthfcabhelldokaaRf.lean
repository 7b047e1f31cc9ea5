import Derived.Test.YthfcabhelldokaaRe
set_option linter.unusedVariables false
set_option linter.unusedSimpArgs false
namespace Go.Proofs.Ythfcabhelldokaa
open Go.RowKit

section
variable {P : Program} {n : Nat} {e : List (Nat × Value)} {w : World}
theorem EW.returnsC {fn : Func} {R : Ending → World → Prop} {t : Nat} {ty ty' : TypeId} {g : Nat} {cs : List Value} {d : TypeDesc} (hres : fn.results = #[.cell t ty]) (hv : e.lookup t = some (.pointer (some ⟨g, 0, none⟩))) (hg : Blk w g cs ty') (hu : P.underlying ty = some d) (hd : (match d with | .struct _ | .array _ _ => true | _ => false) = true) (hi : (P.info? ty).map (·.size) = some cs.length) (h : R (.returned (.agg cs.toArray)) w) : ∀ a, Env n a e → bodyPost P fn R .ret a w := fun a ha =>
  bodyPost_ret (v := .agg cs.toArray) (results_cell_row hres a.tmps w g ty' cs.toArray (0, 0) d (ha.kn t _ hv) hg hu hd (by simpa using hi)) ha.df h
end
theorem st36 {ao : Option Addr} {b : Addr} {u : Value} {l c : Nat} {W : World} (h : W.cell? b = some u) (hf : W.frozen? b = false) : (Instr.storeAt 36 (.pointer (some b)) (.slice ao l c)).run Try.prog W = .ok () (W.setCell b (.slice ao l c)) := by go_simp
theorem app_nil36 (W : World) (ty : TypeId) : (Builtin.append_ #[36, 36] ty #[.slice none 0 0, .slice none 0 0]).run Try.prog W = .ok (.slice none 0 0) W := by go_simp
theorem info39i : (Try.prog.info? 39).map (fun i => (i.zero, i.size, i.bytes)) = some (some (.int .u64 0), 1, 8) := by kernel_rfl
theorem own_has64 {w : World} {v : Value} {b : List (BitVec 64)} (h : w.ownsRow 0 39 1 v b.length (b.map wv)) : Has64 w v b := by
  obtain ⟨h0, ⟨e, hz⟩ | ⟨g, cap, cur, e, _, hh, hn, hc, hs, ht⟩⟩ := h
  · exact .inl ⟨e, List.eq_nil_of_length_eq_zero hz⟩
  · refine .inr ⟨⟨g, 0, none⟩, cap, e, hn, fun i u hu => ?_⟩
    have hi : i < b.length := (List.getElem?_eq_some_iff.1 hu).1
    have hv : (b.map wv)[i]? = some (wv u) := by rw [List.getElem?_map, hu]; rfl
    rw [← ht, List.getElem?_take_of_lt (by omega), Array.getElem?_toList] at hv
    rw [add_plain]
    simp [World.cell?, hh, hv]
theorem Fx.setRow {S : Nat → Prop} (w : World) (g : Nat) (cs : Array Value) (hS : S g) : Fx S w (w.setRow g cs) := ⟨rfl, rfl, rfl, by simp [World.setRow], fun i hi hn => by simp [World.setRow, Array.getElem?_modify, show ¬ g = i from fun e => hn (e ▸ hS)]⟩
theorem lossC_oneB (ao : Option Addr) (l c : Nat) (t o : Int) : (lossC (.slice ao l c) t o).toArray.all (·.oneCell') = true := lossC_oneA ao l c t o
theorem st38m {w : World} {b o : Nat} {ao : Option Addr} {l c : Nat} {t f : Int} (ht : w.there b o 3) : (Instr.storeAt 38 (.pointer (some ⟨b, o, none⟩)) (.agg (lossC (.slice ao l c) t f).toArray)).run Try.prog w = .ok () (w.setCells b o (lossC (.slice ao l c) t f)) := by
  simp only [Instr.storeAt, Instr.sureAddr, Sem.run_bind, Sem.run_pure, Result.andThen_ok, run_storeVar_mid (P := Try.prog) w b o 38 (lossC (.slice ao l c) t f).toArray (by simpa [lossC] using ht) (by simpa using info38 _ _ _) (lossC_oneB ao l c t f)]
set_option maxRecDepth 100000 in
set_option maxHeartbeats 1000000 in
theorem loss_ref (v : Value) (ks : List (BitVec 64)) (torn off : Int) (w : World) (hv : Has64 w v ks) (hl : ks.length ≤ 100000000) :
    Calls Try.prog 74 #[.agg (lossC v torn off).toArray] w fun e w' => ∃ ao l c, e = .returned (.agg (lossC (.slice ao l c) torn off).toArray) ∧ Below w.heap.size w w' ∧ Has64 w' (.slice ao l c) ks ∧ ∀ k, Value.ownBlock (.slice ao l c) = some k → w.heap.size ≤ k ∧ k < w'.heap.size := by
  obtain ⟨g0, hg0⟩ : ∃ g, w.heap.size = g := ⟨_, rfl⟩
  have hbox := run_boxR (P := Try.prog) 38 (lossC v torn off) w g0 hg0
  have b0 : Blk (w.alloc (.cells (lossC v torn off).toArray 38)) g0 (lossC v torn off) 38 := Blk.newAt hg0
  have be0 : Below w.heap.size w (w.alloc (.cells (lossC v torn off).toArray 38)) := below_new w _
  have hv0 := hv.below be0
  have hsz0 : (w.alloc (.cells (lossC v torn off).toArray 38)).heap.size = g0 + 1 := by simp [hg0]
  obtain ⟨w0, hw0⟩ : ∃ w0, w.alloc (.cells (lossC v torn off).toArray 38) = w0 := ⟨_, rfl⟩
  rw [hw0] at hbox b0 be0 hv0 hsz0
  have hnew := run_newR (P := Try.prog) 38 (lossC (.slice none 0 0) 0 0) zero38 w0 (g0 + 1) hsz0
  have b1 : Blk (w0.alloc (.cells (lossC (.slice none 0 0) 0 0).toArray 38)) (g0 + 1) (lossC (.slice none 0 0) 0 0) 38 := Blk.newAt hsz0
  have be1 : Below w0.heap.size w0 (w0.alloc (.cells (lossC (.slice none 0 0) 0 0).toArray 38)) := below_new w0 _
  have hv1 := hv0.below be1
  have b01 := b0.on be1
  have hsz1 : (w0.alloc (.cells (lossC (.slice none 0 0) 0 0).toArray 38)).heap.size = g0 + 2 := by simp [hsz0]
  obtain ⟨w1, hw1⟩ : ∃ w1, w0.alloc (.cells (lossC (.slice none 0 0) 0 0).toArray 38) = w1 := ⟨_, rfl⟩
  rw [hw1] at hnew b1 be1 hv1 b01 hsz1
  have c0 := (b01.cell 0).trans (show _ = some v from rfl)
  obtain ⟨ao, l, c, w2, hr, ho, hb2, hn2⟩ : ∃ ao l c w', (∀ ty, (Builtin.append_ #[36, 36] ty #[.slice none 0 0, v]).run Try.prog w1 = .ok (.slice ao l c) w') ∧ w'.ownsRow 0 39 1 (.slice ao l c) ks.length (ks.map wv) ∧ Below w1.heap.size w1 w' ∧ ∀ k, Value.ownBlock (.slice ao l c) = some k → w1.heap.size ≤ k := by
    rcases hv1 with ⟨rfl, rfl⟩ | ⟨ad, cap, rfl, h2, h3⟩
    · exact ⟨_, _, _, w1, fun ty => app_nil36 w1 ty, World.ownsRow_nil _ _ _ _, Below.refl _ _, fun k hk => by simp [Value.ownBlock] at hk⟩
    · obtain ⟨i0, hi, hz0, hz1, hz2⟩ := info_parts info39i
      obtain ⟨v', w', hr, ho, hg, hn⟩ := run_appx w1 36 36 39 i0 _ 1 8 Try.underlying36 hi hz0 hz1 hz2 (by simp [Value.cells]) (by decide) (.slice none 0 0) 0 [] (World.ownsRow_nil _ _ _ _) ad ks.length cap (ks.map wv) (by simp) (fun j u hu => by
        rw [List.getElem?_map] at hu
        obtain ⟨x, hx, rfl⟩ := Option.map_eq_some_iff.1 hu
        exact h3 j x hx) (fun u hu => by
        obtain ⟨x, _, rfl⟩ := List.mem_map.1 hu
        rfl) (by omega) (by omega)
      obtain ⟨ao, l, c, rfl⟩ := own_shape ho
      refine ⟨ao, l, c, w', fun ty => hr, by simpa using ho, (grown_fx hg).below (fun k _ e => by simp [Value.ownBlock] at e) (Nat.le_refl _), fun k hk => ?_⟩
      rcases hn k hk with e | e
      · simp [Value.ownBlock] at e
      · exact e
  have b02 := b01.on hb2
  have b12 := b1.on hb2
  have c02 := (b02.cell 0).trans (show _ = some v from rfl)
  have b03 := b02.set 0 (.slice ao l c)
  have hs3 := st36 (ao := ao) (l := l) (c := c) c02 (b02.frozen 0)
  have f3 : Fx (fun k => k = g0) w2 (w2.setCell ⟨g0, 0, none⟩ (.slice ao l c)) := Fx.setCell w2 g0 0 _ rfl
  have b13 := b12.fx f3 (fun e => by omega)
  have hks : ∀ k, Value.ownBlock (.slice ao l c) = some k → k ≠ g0 ∧ k ≠ g0 + 1 := fun k hk => by have := hn2 k hk; omega
  have hh3 := (own_has64 ho).fx f3 (fun k hk e => (hks k hk).1 e)
  obtain ⟨w3, hw3⟩ : ∃ w3, w2.setCell ⟨g0, 0, none⟩ (.slice ao l c) = w3 := ⟨_, rfl⟩
  rw [hw3] at b03 hs3 f3 b13 hh3
  have b03 : Blk w3 g0 (lossC (.slice ao l c) torn off) 38 := b03
  have hs4 := run_storeR (P := Try.prog) (ty := 38) b13 (info38 (.slice ao l c) torn off) rfl (lossC_oneB ao l c torn off)
  have b14 := b13.setRow (lossC (.slice ao l c) torn off)
  have f4 : Fx (fun k => k = g0 + 1) w3 (w3.setRow (g0 + 1) (lossC (.slice ao l c) torn off).toArray) := Fx.setRow w3 (g0 + 1) _ rfl
  have hh4 := hh3.fx f4 (fun k hk e => (hks k hk).2 e)
  have hbe : Below w.heap.size w (w3.setRow (g0 + 1) (lossC (.slice ao l c) torn off).toArray) := by
    have e1 : Below w.heap.size w w2 := be0.trans ((be1.trans (hb2.mono be1.size)).mono be0.size)
    exact e1.trans ((f3.below (fun k hk e => by omega) e1.size).trans (f4.below (fun k hk e => by omega) (Nat.le_trans e1.size f3.size)))
  have hlt : ∀ k, Value.ownBlock (.slice ao l c) = some k → w.heap.size ≤ k ∧ k < (w3.setRow (g0 + 1) (lossC (.slice ao l c) torn off).toArray).heap.size := fun k hk => by
    have := hn2 k hk; have h5 := ownsRow_lt ho k hk; have := f3.size; have := f4.size; omega
  refine calls_of_args [.agg (lossC v torn off).toArray] Try.func74 rfl 10 Try.ntmps74 (by show 1 ≤ 10; decide) ?_
  refine EW.seq ?_
  refine EW.region ?_
  refine WL.box rfl rfl rfl hbox ?_
  refine WL.new rfl rfl hnew ?_
  refine WL.done ?_
  refine EW.on ?_
  refine EW.seq ?_
  refine EW.region ?_
  first | refine WL.assign rfl rfl rfl ?_
  refine WL.done ?_
  refine EW.on ?_
  refine EW.seq ?_
  refine EW.region ?_
  first | refine WL.move rfl rfl rfl ?_
  refine WL.field rfl rfl rfl (fld38_0 _ _) ?_
  refine WL.load rfl rfl rfl (ld36 c0) ?_
  refine WL.app rfl rfl rfl rfl (hr _) ?_
  refine WL.field rfl rfl rfl (fld38_0 _ _) ?_
  refine WL.store rfl rfl rfl hs3 ?_
  refine WL.done ?_
  refine EW.on ?_
  refine EW.seq ?_
  refine EW.region ?_
  refine WL.load rfl rfl rfl (run_loadR b03 Try.underlying38 rfl (info38 _ _ _)) ?_
  refine WL.store rfl rfl rfl hs4 ?_
  refine WL.done ?_
  refine EW.on ?_
  refine EW.ret ?_
  exact EW.returnsC Try.results74 rfl b14 Try.underlying38 rfl (info38 _ _ _) ⟨_, _, _, rfl, hbe, hh4, hlt⟩
set_option maxRecDepth 100000 in
set_option maxHeartbeats 1000000 in
theorem rcrash_ok {w : World} {L : Rl} {D : Dv} (h : RDev w L D) (hd : D.down = false) (v : Value) (ks : List (BitVec 64)) (torn off : Int) (hv : Has64 w v ks) (hvn : ∀ k, ks ≠ [] → v.ownBlock = some k → L.vb.ownBlock ≠ some k) :
    Calls Try.prog 68 #[.pointer (some ⟨L.p, 0, none⟩), .agg (lossC v torn off).toArray] w fun e w' => e = .returned (.int .i64 0) ∧ RT w w' L L.bare ∧ RDev w' L.bare (crashD D ks torn off) := by
  obtain ⟨g0, hg0⟩ : ∃ g, w.heap.size = g := ⟨_, rfl⟩
  have hbox := run_boxR (P := Try.prog) 38 (lossC v torn off) w g0 hg0
  have b0 : Blk (w.alloc (.cells (lossC v torn off).toArray 38)) g0 (lossC v torn off) 38 := Blk.newAt hg0
  have be0 : Below w.heap.size w (w.alloc (.cells (lossC v torn off).toArray 38)) := below_new w _
  have h0 := h.below be0
  obtain ⟨w0, hw0⟩ : ∃ w0, w.alloc (.cells (lossC v torn off).toArray 38) = w0 := ⟨_, rfl⟩
  rw [hw0] at hbox b0 be0 h0
  have hc := h0.r2
  rw [hd] at hc
  have hfa := falls_ref h0 v ks torn off (by rw [← hw0]; exact hv.below (below_new w _)) hvn
  refine calls_of_args [.pointer (some ⟨L.p, 0, none⟩), .agg (lossC v torn off).toArray] Try.func68 rfl 12 Try.ntmps68 (by show 2 ≤ 12; decide) ?_
  refine EW.seq ?_
  refine EW.region ?_
  refine WL.box rfl rfl rfl hbox ?_
  first | refine WL.assign rfl rfl rfl ?_
  refine WL.done ?_
  refine EW.on ?_
  refine EW.seq ?_
  refine EW.seq ?_
  refine EW.region ?_
  first | refine WL.move rfl rfl rfl ?_
  first | refine WL.nilc rfl rfl rfl ?_
  first | refine WL.field rfl rfl rfl (fld96_2 _ _) ?_
  refine WL.load rfl rfl rfl (ld4 hc) ?_
  refine WL.done ?_
  refine EW.on ?_
  refine EW.cond_f rfl ?_
  refine EW.skip ?_
  refine EW.on ?_
  refine EW.seq ?_
  refine EW.region ?_
  first | refine WL.move rfl rfl rfl ?_
  refine WL.load rfl rfl rfl (run_loadR b0 Try.underlying38 rfl (info38 _ _ _)) ?_
  refine WL.call [.pointer (some ⟨L.p, 0, none⟩), .agg (lossC v torn off).toArray] enter65 rfl rfl rfl hfa ?_
  rintro x w1 ⟨rfl, ht, hr⟩
  refine ⟨_, rfl, ?_⟩
  refine WL.done ?_
  refine EW.on ?_
  refine EW.seq ?_
  refine EW.region ?_
  first | refine WL.assign rfl rfl rfl ?_
  refine WL.done ?_
  refine EW.on ?_
  refine EW.ret ?_
  repeat (first | refine pr_then ?_ | refine pr_block ?_)
  exact EW.returns Try.results68 rfl ⟨rfl, (RT.below be0).trans ht, hr⟩
set_option maxRecDepth 100000 in
set_option maxHeartbeats 1000000 in
theorem rcrash_no {w : World} {L : Rl} {D : Dv} (h : RDev w L D) (hd : D.down = true) (v : Value) (torn off : Int) :
    Calls Try.prog 68 #[.pointer (some ⟨L.p, 0, none⟩), .agg (lossC v torn off).toArray] w fun e w' => e = .returned (.int .i64 80) ∧ RT w w' L L ∧ RDev w' L D := by
  obtain ⟨g0, hg0⟩ : ∃ g, w.heap.size = g := ⟨_, rfl⟩
  have hbox := run_boxR (P := Try.prog) 38 (lossC v torn off) w g0 hg0
  have b0 : Blk (w.alloc (.cells (lossC v torn off).toArray 38)) g0 (lossC v torn off) 38 := Blk.newAt hg0
  have be0 : Below w.heap.size w (w.alloc (.cells (lossC v torn off).toArray 38)) := below_new w _
  have h0 := h.below be0
  obtain ⟨w0, hw0⟩ : ∃ w0, w.alloc (.cells (lossC v torn off).toArray 38) = w0 := ⟨_, rfl⟩
  rw [hw0] at hbox b0 be0 h0
  have hc := h0.r2
  rw [hd] at hc
  refine calls_of_args [.pointer (some ⟨L.p, 0, none⟩), .agg (lossC v torn off).toArray] Try.func68 rfl 12 Try.ntmps68 (by show 2 ≤ 12; decide) ?_
  refine EW.seq ?_
  refine EW.region ?_
  refine WL.box rfl rfl rfl hbox ?_
  first | refine WL.assign rfl rfl rfl ?_
  refine WL.done ?_
  refine EW.on ?_
  refine EW.seq ?_
  refine EW.seq ?_
  refine EW.region ?_
  first | refine WL.move rfl rfl rfl ?_
  first | refine WL.nilc rfl rfl rfl ?_
  first | refine WL.field rfl rfl rfl (fld96_2 _ _) ?_
  refine WL.load rfl rfl rfl (ld4 hc) ?_
  refine WL.done ?_
  refine EW.on ?_
  refine EW.cond_t rfl ?_
  refine EW.seq ?_
  refine EW.region ?_
  first | refine WL.assign rfl rfl rfl ?_
  refine WL.done ?_
  refine EW.on ?_
  refine EW.ret ?_
  repeat (first | refine pr_then ?_ | refine pr_block ?_)
  exact EW.returns Try.results68 rfl ⟨rfl, RT.below be0, h0⟩
/-- Where the calls are not counted, the loss is of no matter. -/
theorem RDev.fit {w : World} {L : Rl} {D : Dv} (h : RDev w L D) (D' : Dv) (e : D'.n = D.n ∧ D'.img = D.img ∧ D'.pen = D.pen ∧ D'.left = D.left ∧ D'.down = D.down ∧ D'.calls = D.calls) (hl : D'.left ≠ 0 → L.ks = D'.keep ∧ L.torn = D'.torn ∧ L.off = D'.off) : RDev w L D' := by
  obtain ⟨e1, e2, e3, e4, e5, e6⟩ := e
  have ho : D'.ok := ⟨by rw [e1]; exact h.ok.n1, by rw [e1]; exact h.ok.n2, by rw [e1, e2]; exact h.ok.len, by rw [e1, e3]; exact h.ok.sec, by rw [e3]; exact h.ok.few, by rw [e6]; exact h.ok.cal⟩
  exact ⟨by have := h.dev; unfold rvC at this ⊢; rw [e4, e5, e6]; exact this, by rw [e2]; exact h.img, by rw [e3]; exact h.pen, by rw [e3]; exact h.bys, by rw [e3]; exact h.vsl, h.kp, hl, ho, h.bp, h.lp, h.bl, h.kn, h.vn⟩
def Rl.lossy (L : Rl) (v : Value) (ks : List (BitVec 64)) (torn off : Int) : Rl := ⟨L.p, L.vb, L.vl, v, L.vs, ks, torn, off⟩
theorem RDev.setLoss {w : World} {L : Rl} {D : Dv} (h : RDev w L D) (v : Value) (ks : List (BitVec 64)) (torn off : Int) (hv : Has64 w v ks) (hn : ∀ k, v.ownBlock = some k → ¬ L.F k ∧ k < w.heap.size) :
    RDev (w.setCells L.p 4 (lossC v torn off)) (L.lossy v ks torn off) { D with keep := ks, torn := torn, off := off } := by
  have hf : Fx (fun j => j = L.p) w (w.setCells L.p 4 (lossC v torn off)) := Fx.setCells (S := fun j => j = L.p) L.p rfl _ _ _
  exact { dev := Blk.setCells (lossC v torn off) 4 w _ h.dev (by simp [lossC, rvC]), img := ownsRow_fx h.img hf (fun k hk e => h.bp (by rw [← e]; exact hk)), pen := ownsRow_fx h.pen hf (fun k hk e => h.lp (by rw [← e]; exact hk)), bys := fun k u x h1 h2 => (h.bys k u x h1 h2).fx hf (fun j hj e => (h.vn u (List.mem_of_getElem? h1) j hj).1 e), vsl := h.vsl, kp := hv.fx hf (fun k hk e => (hn k hk).1 (.inl e)), los := fun _ => ⟨rfl, rfl, rfl⟩, ok := ⟨h.ok.n1, h.ok.n2, h.ok.len, h.ok.sec, h.ok.few, h.ok.cal⟩, bp := h.bp, lp := h.lp, bl := h.bl, kn := fun k hk => ⟨fun e => (hn k hk).1 (.inl e), fun e => (hn k hk).1 (.inr (.inl e)), fun e => (hn k hk).1 (.inr (.inr (.inl e))), Nat.lt_of_lt_of_le (hn k hk).2 hf.size⟩, vn := fun u hu k hk => ⟨(h.vn u hu k hk).1, (h.vn u hu k hk).2.1, (h.vn u hu k hk).2.2.1, Nat.lt_of_lt_of_le (h.vn u hu k hk).2.2.2 hf.size⟩ }
set_option maxRecDepth 100000 in
set_option maxHeartbeats 1000000 in
theorem rarm_ok {w : World} {L : Rl} {D : Dv} (h : RDev w L D) (hd : D.down = false) (step : Nat) (v : Value) (ks : List (BitVec 64)) (torn off : Int) (hv : Has64 w v ks) (hvp : ∀ k, ks ≠ [] → v.ownBlock = some k → ¬ k = L.p) (hl : ks.length ≤ 100000000) :
    Calls Try.prog 67 #[.pointer (some ⟨L.p, 0, none⟩), .int .i64 (step : Int), .agg (lossC v torn off).toArray] w fun e w' => e = .returned (.int .i64 0) ∧ ∃ L', RT w w' L L' ∧ RDev w' L' (armD D step ks torn off) := by
  obtain ⟨g0, hg0⟩ : ∃ g, w.heap.size = g := ⟨_, rfl⟩
  have hbox := run_boxR (P := Try.prog) 38 (lossC v torn off) w g0 hg0
  have b0 : Blk (w.alloc (.cells (lossC v torn off).toArray 38)) g0 (lossC v torn off) 38 := Blk.newAt hg0
  have be0 : Below w.heap.size w (w.alloc (.cells (lossC v torn off).toArray 38)) := below_new w _
  have h0 := h.below be0
  obtain ⟨w0, hw0⟩ : ∃ w0, w.alloc (.cells (lossC v torn off).toArray 38) = w0 := ⟨_, rfl⟩
  rw [hw0] at hbox b0 be0 h0
  have hc := h0.r2
  rw [hd] at hc
  have z0 : ¬ (step : Int) < 0 := by omega
  have k1 := h0.num 3 (.int .i64 (step : Int)) { D with left := step, keep := L.ks, torn := L.torn, off := L.off } rfl rfl rfl (fun _ => ⟨rfl, rfl, rfl⟩) ⟨h.ok.n1, h.ok.n2, h.ok.len, h.ok.sec, h.ok.few, h.ok.cal⟩
  have s1 := st3 (z := (step : Int)) h0.r3 (h0.dev.frozen 3)
  have hgF : ¬ L.F g0 := fun e => by have := h.lt g0 e; omega
  have b1 : Blk (w0.setCell ⟨L.p, 3, none⟩ (.int .i64 (step : Int))) g0 (lossC v torn off) 38 := b0.fx k1.2.fx hgF
  have hv1 : Has64 (w0.setCell ⟨L.p, 3, none⟩ (.int .i64 (step : Int))) v ks := by
    have hv0 := hv.below (below_new w (.cells (lossC v torn off).toArray 38))
    rw [hw0] at hv0
    exact hv0.fx' (Fx.setCell (S := fun j => j = L.p) w0 L.p 3 _ rfl) hvp
  obtain ⟨w1, hw1⟩ : ∃ w1, w0.setCell ⟨L.p, 3, none⟩ (.int .i64 (step : Int)) = w1 := ⟨_, rfl⟩
  rw [hw1] at k1 s1 b1 hv1
  have hlo := loss_ref v ks torn off w1 hv1 hl
  refine calls_of_args [.pointer (some ⟨L.p, 0, none⟩), .int .i64 (step : Int), .agg (lossC v torn off).toArray] Try.func67 rfl 22 Try.ntmps67 (by show 3 ≤ 22; decide) ?_
  refine EW.seq ?_
  refine EW.region ?_
  refine WL.box rfl rfl rfl hbox ?_
  first | refine WL.assign rfl rfl rfl ?_
  refine WL.done ?_
  refine EW.on ?_
  refine EW.seq ?_
  refine EW.seq ?_
  refine EW.region ?_
  first | refine WL.move rfl rfl rfl ?_
  first | refine WL.nilc rfl rfl rfl ?_
  first | refine WL.field rfl rfl rfl (fld96_2 _ _) ?_
  refine WL.load rfl rfl rfl (ld4 hc) ?_
  refine WL.done ?_
  refine EW.on ?_
  refine EW.cond_f rfl ?_
  refine EW.skip ?_
  refine EW.on ?_
  refine EW.seq ?_
  refine EW.seq ?_
  refine EW.region ?_
  first | refine WL.move rfl rfl rfl ?_
  refine WL.bin rfl rfl rfl rfl (int_lt_f z0 _ _ _) ?_
  refine WL.done ?_
  refine EW.on ?_
  refine EW.cond_f rfl ?_
  refine EW.skip ?_
  refine EW.on ?_
  refine EW.seq ?_
  refine EW.region ?_
  first | refine WL.move rfl rfl rfl ?_
  first | refine WL.move rfl rfl rfl ?_
  first | refine WL.nilc rfl rfl rfl ?_
  first | refine WL.field rfl rfl rfl (fld96_3 _ _) ?_
  refine WL.store rfl rfl rfl s1 ?_
  refine WL.done ?_
  refine EW.on ?_
  refine EW.seq ?_
  refine EW.region ?_
  first | refine WL.move rfl rfl rfl ?_
  refine WL.load rfl rfl rfl (run_loadR b1 Try.underlying38 rfl (info38 _ _ _)) ?_
  refine WL.call [.agg (lossC v torn off).toArray] enter74 rfl rfl rfl hlo ?_
  rintro x w2 ⟨ao, l, c, rfl, be2, hh2, hlt2⟩
  refine ⟨_, rfl, ?_⟩
  have h2 := k1.1.below be2
  have hk2 := h2.setLoss (.slice ao l c) ks torn off hh2 (fun k hk => ⟨fun hF => by have := k1.1.lt k hF; have := (hlt2 k hk).1; omega, (hlt2 k hk).2⟩)
  have s2 := st38m (ao := ao) (l := l) (c := c) (t := torn) (f := off) (w := w2) (b := L.p) (o := 4) (fun j hj => ⟨by rw [h2.dev.cell]; simp [rvC]; omega, h2.dev.frozen _⟩)
  first | refine WL.nilc rfl rfl rfl ?_
  first | refine WL.field rfl rfl rfl (fld96_4 _ _) ?_
  refine WL.store rfl rfl rfl s2 ?_
  refine WL.done ?_
  refine EW.on ?_
  refine EW.seq ?_
  refine EW.region ?_
  first | refine WL.assign rfl rfl rfl ?_
  refine WL.done ?_
  refine EW.on ?_
  refine EW.ret ?_
  refine EW.returns Try.results67 rfl ⟨rfl, L.lossy (.slice ao l c) ks torn off, (RT.below be0).trans (k1.2.trans ⟨(Fx.of_below be2).and (Fx.setCells L.p (.inl rfl) _ _ _), fun k hk => ?_, rfl⟩), hk2⟩
  rcases hk with hk | hk | hk | hk | hk
  · exact .inl (.inl hk)
  · exact .inl (.inr (.inl hk))
  · exact .inl (.inr (.inr (.inl hk)))
  · exact .inr (hlt2 k hk).1
  · exact .inl (.inr (.inr (.inr (.inr hk))))
set_option maxRecDepth 100000 in
set_option maxHeartbeats 1000000 in
theorem rarm_no {w : World} {L : Rl} {D : Dv} (h : RDev w L D) (hd : D.down = true) (step : Int) (v : Value) (torn off : Int) : Calls Try.prog 67 #[.pointer (some ⟨L.p, 0, none⟩), .int .i64 step, .agg (lossC v torn off).toArray] w fun e w' => e = .returned (.int .i64 80) ∧ RT w w' L L ∧ RDev w' L D := by
  obtain ⟨g0, hg0⟩ : ∃ g, w.heap.size = g := ⟨_, rfl⟩
  have hbox := run_boxR (P := Try.prog) 38 (lossC v torn off) w g0 hg0
  have b0 : Blk (w.alloc (.cells (lossC v torn off).toArray 38)) g0 (lossC v torn off) 38 := Blk.newAt hg0
  have be0 : Below w.heap.size w (w.alloc (.cells (lossC v torn off).toArray 38)) := below_new w _
  have h0 := h.below be0
  obtain ⟨w0, hw0⟩ : ∃ w0, w.alloc (.cells (lossC v torn off).toArray 38) = w0 := ⟨_, rfl⟩
  rw [hw0] at hbox b0 be0 h0
  have hc := h0.r2
  rw [hd] at hc
  refine calls_of_args [.pointer (some ⟨L.p, 0, none⟩), .int .i64 step, .agg (lossC v torn off).toArray] Try.func67 rfl 22 Try.ntmps67 (by show 3 ≤ 22; decide) ?_
  refine EW.seq ?_
  refine EW.region ?_
  refine WL.box rfl rfl rfl hbox ?_
  first | refine WL.assign rfl rfl rfl ?_
  refine WL.done ?_
  refine EW.on ?_
  refine EW.seq ?_
  refine EW.seq ?_
  refine EW.region ?_
  first | refine WL.move rfl rfl rfl ?_
  first | refine WL.nilc rfl rfl rfl ?_
  first | refine WL.field rfl rfl rfl (fld96_2 _ _) ?_
  refine WL.load rfl rfl rfl (ld4 hc) ?_
  refine WL.done ?_
  refine EW.on ?_
  refine EW.cond_t rfl ?_
  refine EW.seq ?_
  refine EW.region ?_
  first | refine WL.assign rfl rfl rfl ?_
  refine WL.done ?_
  refine EW.on ?_
  refine EW.ret ?_
  repeat (first | refine pr_then ?_ | refine pr_block ?_)
  exact EW.returns Try.results67 rfl ⟨rfl, RT.below be0, h0⟩
set_option maxRecDepth 100000 in
set_option maxHeartbeats 1000000 in
theorem rarm_neg {w : World} {L : Rl} {D : Dv} (h : RDev w L D) (hd : D.down = false) (step : Int) (hs : step < 0) (v : Value) (torn off : Int) : Calls Try.prog 67 #[.pointer (some ⟨L.p, 0, none⟩), .int .i64 step, .agg (lossC v torn off).toArray] w fun e w' => e = .returned (.int .i64 4) ∧ RT w w' L L ∧ RDev w' L D := by
  obtain ⟨g0, hg0⟩ : ∃ g, w.heap.size = g := ⟨_, rfl⟩
  have hbox := run_boxR (P := Try.prog) 38 (lossC v torn off) w g0 hg0
  have b0 : Blk (w.alloc (.cells (lossC v torn off).toArray 38)) g0 (lossC v torn off) 38 := Blk.newAt hg0
  have be0 : Below w.heap.size w (w.alloc (.cells (lossC v torn off).toArray 38)) := below_new w _
  have h0 := h.below be0
  obtain ⟨w0, hw0⟩ : ∃ w0, w.alloc (.cells (lossC v torn off).toArray 38) = w0 := ⟨_, rfl⟩
  rw [hw0] at hbox b0 be0 h0
  have hc := h0.r2
  rw [hd] at hc
  refine calls_of_args [.pointer (some ⟨L.p, 0, none⟩), .int .i64 step, .agg (lossC v torn off).toArray] Try.func67 rfl 22 Try.ntmps67 (by show 3 ≤ 22; decide) ?_
  refine EW.seq ?_
  refine EW.region ?_
  refine WL.box rfl rfl rfl hbox ?_
  first | refine WL.assign rfl rfl rfl ?_
  refine WL.done ?_
  refine EW.on ?_
  refine EW.seq ?_
  refine EW.seq ?_
  refine EW.region ?_
  first | refine WL.move rfl rfl rfl ?_
  first | refine WL.nilc rfl rfl rfl ?_
  first | refine WL.field rfl rfl rfl (fld96_2 _ _) ?_
  refine WL.load rfl rfl rfl (ld4 hc) ?_
  refine WL.done ?_
  refine EW.on ?_
  refine EW.cond_f rfl ?_
  refine EW.skip ?_
  refine EW.on ?_
  refine EW.seq ?_
  refine EW.seq ?_
  refine EW.region ?_
  first | refine WL.move rfl rfl rfl ?_
  refine WL.bin rfl rfl rfl rfl (int_lt_t hs _ _ _) ?_
  refine WL.done ?_
  refine EW.on ?_
  refine EW.cond_t rfl ?_
  refine EW.seq ?_
  refine EW.region ?_
  first | refine WL.assign rfl rfl rfl ?_
  refine WL.done ?_
  refine EW.on ?_
  refine EW.ret ?_
  repeat (first | refine pr_then ?_ | refine pr_block ?_)
  exact EW.returns Try.results67 rfl ⟨rfl, RT.below be0, h0⟩
end Go.Proofs.Ythfcabhelldokaa
