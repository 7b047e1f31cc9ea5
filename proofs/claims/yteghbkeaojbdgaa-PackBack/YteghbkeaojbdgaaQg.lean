import Derived.Test.YteghbkeaojbdgaaQf
set_option linter.unusedVariables false
set_option linter.unusedSimpArgs false
namespace Go.Proofs.Yteghbkeaojbdgaa
open Go.RowKit

theorem results_twoN {P : Program} {fn : Func} {p q : Tmp} {ty : TypeId} (h : fn.results = #[.cell p ty, .tmp q]) (tmps : Array Value) (w : World) (g : Nat) (t : TypeId) (cs : Array Value) (fr : Nat × Nat) (d : TypeDesc) (v : Value)
    (hp : tmps.getD p undef = .pointer (some ⟨g, 0, none⟩)) (hq : tmps.getD q undef = v) (hg : w.heap[g]? = some (.cells cs t fr))
    (hu : P.underlying ty = some d) (hd : (match d with | .struct _ | .array _ _ => true | _ => false) = true) (hi : (P.info? ty).map (·.size) = some cs.size) :
    (results fn tmps).run P w = .ok (.tuple #[.agg cs, v]) w := by
  have hp' : tmps[p]?.getD undef = .pointer (some ⟨g, 0, none⟩) := by simpa using hp
  have hq' : tmps[q]?.getD undef = v := by simpa using hq
  simp [results, h, hp', hq', asAddr, run_loadVar_row w g t ty cs fr d hg hu hd hi]
theorem EW.returnsCT {P : Program} {n : Nat} {e : List (Nat × Value)} {w : World} {fn : Func} {R : Ending → World → Prop} {t u : Nat} {ty ty' : TypeId} {g : Nat} {cs : List Value} {v : Value} {d : TypeDesc} (hres : fn.results = #[.cell t ty, .tmp u]) (hv : e.lookup t = some (.pointer (some ⟨g, 0, none⟩))) (hv' : e.lookup u = some v) (hg : Blk w g cs ty') (hu : P.underlying ty = some d) (hd : (match d with | .struct _ | .array _ _ => true | _ => false) = true) (hi : (P.info? ty).map (·.size) = some cs.length) (h : R (.returned (.tuple #[.agg cs.toArray, v])) w) : ∀ a, Env n a e → bodyPost P fn R .ret a w := fun a ha =>
  bodyPost_ret (v := .tuple #[.agg cs.toArray, v]) (results_twoN hres a.tmps w g ty' cs.toArray (0, 0) d v (ha.kn t _ hv) (ha.kn u _ hv') hg hu hd (by simpa using hi)) ha.df h
theorem Has.fxB {w w' : World} {v : Value} {bs : List UInt8} {q : Nat} {cs : List Value} {t : TypeId} (h : Has w v bs) (hb : Blk w q cs t) (hn : NoB cs) (hf : Fx (fun k => k = q) w w') : Has w' v bs := h.fxo hf (fun k hk => by have e : k = q := hk; rw [e]; exact h.offB hb hn)
theorem nob32 (t : Int) (a b : Value) (ha : ∃ ao n c, a = .slice ao n c) (hb : ∃ ao n c, b = .slice ao n c) : NoB [.int .i64 t, a, b] := by
  obtain ⟨_, _, _, rfl⟩ := ha
  obtain ⟨_, _, _, rfl⟩ := hb
  intro x hx b
  simp only [List.mem_cons, List.not_mem_nil, or_false] at hx
  rcases hx with rfl | rfl | rfl
  · intro e; cases e
  · intro e; cases e
  · intro e; cases e
theorem slc (a : Option Addr) (n c : Nat) : ∃ ao n' c', (Value.slice a n c) = .slice ao n' c' := ⟨_, _, _, rfl⟩
/-- A reader and two records beside it. -/
structure Rs (w0 W : World) (q q2 q4 : Nat) (v : Value) (c : List UInt8) (at_ : Nat) (f : Int) (c2 cs : List Value) : Prop where
  rd : Rd W q v c at_ f
  b2 : Blk W q2 c2 32
  b4 : Blk W q4 cs 32
  fx : Fx (fun k => k = q) w0 W
  h2 : w0.heap.size ≤ q2
  h4 : w0.heap.size ≤ q4
  ne : q2 ≠ q4
theorem blk_ne {w : World} {q q' : Nat} {cs cs' : List Value} (h : Blk w q cs 78) (h' : Blk w q' cs' 32) : q' ≠ q := by
  intro e
  rw [e] at h'
  unfold Blk at h h'
  rw [h] at h'
  simp at h'
theorem Rs.step {w0 W W' : World} {q q2 q4 : Nat} {v : Value} {c : List UInt8} {at_ at' : Nat} {f f' : Int} {c2 cs : List Value} (h : Rs w0 W q q2 q4 v c at_ f c2 cs) (hr : Rd W' q v c at' f') (hf : Fx (fun k => k = q) W W') : Rs w0 W' q q2 q4 v c at' f' c2 cs :=
  ⟨hr, h.b2.fx hf (blk_ne h.rd.bl h.b2), h.b4.fx hf (blk_ne h.rd.bl h.b4), h.fx.trans hf (fun k _ e => e), h.h2, h.h4, h.ne⟩
theorem Rs.cell {w0 W W' : World} {q q2 q4 : Nat} {v : Value} {c : List UInt8} {at_ : Nat} {f : Int} {c2 cs cs' : List Value} (h : Rs w0 W q q2 q4 v c at_ f c2 cs) (hn : NoB cs) (hb : Blk W' q4 cs' 32) (hf : Fx (fun k => k = q4) W W') : Rs w0 W' q q2 q4 v c at_ f c2 cs' :=
  ⟨⟨h.rd.bl.fx hf (fun e => blk_ne h.rd.bl h.b4 e.symm), h.rd.hs.fxB h.b4 hn hf, h.rd.le⟩, h.b2.fx hf h.ne, hb, h.fx.trans hf (fun k hk e => by have := h.h4; have e' : k = q4 := e; omega), h.h2, h.h4, h.ne⟩
theorem Rs.cell2 {w0 W W' : World} {q q2 q4 : Nat} {v : Value} {c : List UInt8} {at_ : Nat} {f : Int} {c2 cs c2' : List Value} (h : Rs w0 W q q2 q4 v c at_ f c2 cs) (hn : NoB c2) (hb : Blk W' q2 c2' 32) (hf : Fx (fun k => k = q2) W W') : Rs w0 W' q q2 q4 v c at_ f c2' cs :=
  ⟨⟨h.rd.bl.fx hf (fun e => blk_ne h.rd.bl h.b2 e.symm), h.rd.hs.fxB h.b2 hn hf, h.rd.le⟩, hb, h.b4.fx hf (fun e => h.ne e.symm), h.fx.trans hf (fun k hk e => by have := h.h2; have e' : k = q2 := e; omega), h.h2, h.h4, h.ne⟩
theorem Rs.below {w0 W W' : World} {q q2 q4 : Nat} {v : Value} {c : List UInt8} {at_ : Nat} {f : Int} {c2 cs : List Value} (h : Rs w0 W q q2 q4 v c at_ f c2 cs) (hb : Below W.heap.size W W') : Rs w0 W' q q2 q4 v c at_ f c2 cs :=
  ⟨h.rd.below hb, h.b2.on hb, h.b4.on hb, h.fx.then_below hb, h.h2, h.h4, h.ne⟩
theorem r8_lt (c : List UInt8) (at_ : Nat) (f : Int) : (r8D c at_ f).1 < 256 := by
  unfold r8D
  split
  · split
    · rename_i x _; exact x.toNat_lt
    · exact (by decide : 0 < 256)
  · exact (by decide : 0 < 256)
theorem bld32z (W : World) : (Instr.build 32 [].toArray).run Try.prog W = .ok (.agg z32.toArray) W := by kernel_rfl
def zR : RV := ⟨0, .slice none 0 0, .slice none 0 0, [], []⟩
set_option maxRecDepth 100000 in
set_option maxHeartbeats 1000000 in
theorem read_ok (q : Nat) (v : Value) (c : List UInt8) (at_ : Nat) (f : Int) (w : World) (hr : Rd w q v c at_ f) (hl : c.length ≤ 100000) (n1 p1 n2 p2 p3 p4 : Nat) (f1 f2 f3 : Int) (kb vb : List UInt8) (e1 : r8D c at_ f = (n1, p1, f1)) (e2 : r8D c p1 f1 = (n2, p2, f2)) (e3 : rfD c n2 p2 f2 = (kb, p3, f3)) (e4 : rrD c p3 f3 = (vb, p4, 0)) : Calls Try.prog 44 #[.pointer (some ⟨q, 0, none⟩)] w fun e w' => ∃ x : RV, e = .returned (.tuple #[x.val, .int .i64 (errR x)]) ∧ x.ok w' ∧ x.d = ⟨(n1 : Int), kb, vb⟩ ∧ Fresh w x.vk ∧ Fresh w x.vv ∧ Rd w' q v c p4 0 ∧ Fx (fun k => k = q) w w' := by
  have hn2 : n2 < 256 := by have := r8_lt c p1 f1; rw [e2] at this; exact this
  have nobz : NoB z32 := nob32 _ _ _ (slc _ _ _) (slc _ _ _)
  refine calls_of_args [.pointer (some ⟨q, 0, none⟩)] Try.func44 rfl 29 Try.ntmps44 (by show 1 ≤ 29; decide) ?_
  refine EW.seq ?_
  refine EW.region ?_
  obtain ⟨wa, q2, ra, ba, bea, hqa⟩ := new32 w
  refine WL.new rfl rfl ra ?_
  first | refine WL.assign rfl rfl rfl ?_
  refine WL.done ?_
  refine EW.on ?_
  refine EW.seq ?_
  refine EW.region ?_
  obtain ⟨wb, q4, rb, bb, beb, hqb⟩ := new32 wa
  refine WL.new rfl rfl rb ?_
  have R0 : Rs w wb q q2 q4 v c at_ f z32 z32 := ⟨(hr.below bea).below beb, ba.on beb, bb, Fx.of_below (bea.trans (beb.mono bea.size)), by omega, by have := bea.size; omega, by have := ba.lt; omega⟩
  refine WL.done ?_
  refine EW.on ?_
  refine EW.seq ?_
  refine EW.region ?_
  first | refine WL.move rfl rfl rfl ?_
  refine WL.call [.pointer (some ⟨q, 0, none⟩)] enter50 rfl rfl rfl (ru8_any q v c at_ f _ R0.rd hl) ?_
  rintro _ w1 ⟨rfl, g1, x1⟩
  rw [e1] at g1 ⊢
  have R1 := R0.step g1 x1
  refine ⟨_, rfl, ?_⟩
  refine WL.field rfl rfl rfl (rfld0 q4 _) ?_
  obtain ⟨w2, s2, b2, y2⟩ := stI R1.b4 (show 0 < 3 by decide) (n1 : Int)
  have R2 := R1.cell nobz b2 y2
  refine WL.store rfl rfl rfl s2 ?_
  refine WL.done ?_
  refine EW.on ?_
  refine EW.seq ?_
  refine EW.region ?_
  first | refine WL.move rfl rfl rfl ?_
  first | refine WL.move rfl rfl rfl ?_
  refine WL.call [.pointer (some ⟨q, 0, none⟩)] enter50 rfl rfl rfl (ru8_any q v c p1 f1 _ R2.rd hl) ?_
  rintro _ w3 ⟨rfl, g3, x3⟩
  rw [e2] at g3 ⊢
  have R3 := R2.step g3 x3
  refine ⟨_, rfl, ?_⟩
  refine WL.call [.pointer (some ⟨q, 0, none⟩), .int .i64 (n2 : Int)] enter31 rfl rfl rfl (rfix_any q n2 v c p2 f2 _ R3.rd hl (by omega)) ?_
  rintro _ w4 ⟨uk, rfl, hk4, fk4, g4, x4⟩
  rw [e3] at g4 hk4
  have R4 := R3.step g4 x4
  refine ⟨_, rfl, ?_⟩
  refine WL.field rfl rfl rfl (rfld1 q4 _) ?_
  obtain ⟨ko, kn, kc, hke⟩ := hk4.sl
  obtain ⟨w5, s5, b5, y5⟩ := stS R4.b4 (show 1 < 3 by decide) ko kn kc
  rw [← hke] at s5 b5
  have n5 : NoB (z32.set 0 (.int .i64 (n1 : Int))) := nob32 _ _ _ (slc _ _ _) (slc _ _ _)
  have R5 := R4.cell n5 b5 y5
  have hk5 := hk4.fxB R4.b4 n5 y5
  refine WL.store rfl rfl rfl s5 ?_
  refine WL.done ?_
  refine EW.on ?_
  refine EW.seq ?_
  refine EW.region ?_
  first | refine WL.move rfl rfl rfl ?_
  refine WL.call [.pointer (some ⟨q, 0, none⟩), .int .i64 900] enter51 rfl rfl rfl (rrun_any q v c p3 f3 _ R5.rd hl) ?_
  rintro _ w6 ⟨uv, rfl, hv6, fv6, g6, x6⟩
  rw [e4] at g6 hv6
  have R6 := R5.step g6 x6
  have hk6 := hk5.fxB R5.rd.bl (nob78 _ _ _ R5.rd.hs.sl) x6
  refine ⟨_, rfl, ?_⟩
  refine WL.field rfl rfl rfl (rfld2 q4 _) ?_
  obtain ⟨vo, vn, vc, hve⟩ := hv6.sl
  obtain ⟨w7, s7, b7, y7⟩ := stS R6.b4 (show 2 < 3 by decide) vo vn vc
  rw [← hve] at s7 b7
  have n7 : NoB ((z32.set 0 (.int .i64 (n1 : Int))).set 1 uk) := nob32 _ _ _ hk4.sl (slc _ _ _)
  have R7 := R6.cell n7 b7 y7
  have okx : (⟨(n1 : Int), uk, uv, kb, vb⟩ : RV).ok w7 := ⟨hk6.fxB R6.b4 n7 y7, hv6.fxB R6.b4 n7 y7⟩
  obtain ⟨x, hxx⟩ : ∃ x : RV, x = ⟨(n1 : Int), uk, uv, kb, vb⟩ := ⟨_, rfl⟩
  rw [← hxx] at okx
  have hxc : ((z32.set 0 (.int .i64 (n1 : Int))).set 1 uk).set 2 uv = x.cs := by rw [hxx]; rfl
  rw [hxc] at R7
  have fr1 : Fresh w x.vk := fun k hk => by rw [hxx] at hk; have := fk4 k hk; have := R3.fx.size; omega
  have fr2 : Fresh w x.vv := fun k hk => by rw [hxx] at hk; have := fv6 k hk; have := R5.fx.size; omega
  refine WL.store rfl rfl rfl s7 ?_
  refine WL.done ?_
  refine EW.on ?_
  refine EW.seq ?_
  refine EW.seq ?_
  refine EW.region ?_
  first | refine WL.move rfl rfl rfl ?_
  refine WL.call [.pointer (some ⟨q, 0, none⟩)] enter52 rfl rfl rfl (fault_0 q v c p4 _ R7.rd) ?_
  rintro _ w8 ⟨rfl, hz8⟩
  rw [hz8]
  refine ⟨_, rfl, ?_⟩
  first | refine WL.move rfl rfl rfl ?_
  first | refine WL.extract rfl rfl rfl (ext_2 _ _ _).1 ?_
  first | refine WL.extract rfl rfl rfl (ext_2 _ _ _).2 ?_
  first | refine WL.assign rfl rfl rfl ?_
  first | refine WL.assign rfl rfl rfl ?_
  refine WL.done ?_
  refine EW.on ?_
  refine EW.seq ?_
  refine EW.region ?_
  first | refine WL.move rfl rfl rfl ?_
  first | refine WL.bin rfl rfl rfl rfl (int_ne_f rfl _ _ _) ?_ | refine WL.bin rfl rfl rfl rfl (int_ne_t ‹_› _ _ _) ?_ | refine WL.bin rfl rfl rfl rfl (int_ne_f ‹_› _ _ _) ?_ | refine WL.bin rfl rfl rfl rfl (int_ne_t (by decide) _ _ _) ?_ | refine WL.bin rfl rfl rfl rfl (int_ne_d _ _ _ _ _) ?_
  refine WL.done ?_
  refine EW.on ?_
  refine EW.cond_f rfl ?_
  refine EW.skip ?_
  refine EW.on ?_
  refine EW.seq ?_
  refine EW.ordB [(0, 0, 1), (1, 0, 1), (2, 1, 1), (3, 1, 0), (4, 0, 0)] (by kernel_rfl) rfl (by kernel_rfl) ?_
  simp only [opsZ, List.getD_cons_zero, List.getD_cons_succ]
  refine ZE.load rfl rfl rfl rfl sz1 (fun W hW => ld32 (r := x) (R7.b4.on (sb_of hW))) ?_
  refine ZE.load rfl rfl rfl rfl sz1 (fun W hW => ld32 (r := x) (R7.b4.on (sb_of hW))) ?_
  refine ZE.callB (v := .int .i64 (errR x)) [x.val] enter37 rfl rfl rfl (fun W h => .inr h) (fun W hW => check_any x W (okx.below hW)) ?_
  refine ZE.store (fun W => Rs w W q q2 q4 v c p4 0 x.cs x.cs ∧ x.ok W) rfl rfl rfl (fun _ _ => .inl rfl) (fun W hW => ?_) ?_
  · obtain ⟨W', s1, s2, s3⟩ := st32 (r := x) (R7.below hW).b2 rfl okx.one
    exact ⟨W', s1, (R7.below hW).cell2 nobz s2 s3, (okx.below hW).fxB (R7.below hW).b2 nobz s3⟩
  first | refine ZE.assign rfl rfl rfl rfl sz0 ?_
  rintro w9 ⟨R9, ok9⟩
  refine EW.on ?_
  refine EW.ret ?_
  exact EW.returnsCT Try.results44 rfl rfl R9.b2 Try.underlying32 rfl (info32 x) ⟨x, rfl, ok9, by rw [hxx]; rfl, fr1, fr2, R9.rd, R9.fx⟩
set_option maxRecDepth 100000 in
set_option maxHeartbeats 1000000 in
theorem read_bad (q : Nat) (v : Value) (c : List UInt8) (at_ : Nat) (f : Int) (w : World) (hr : Rd w q v c at_ f) (hl : c.length ≤ 100000) (n1 p1 n2 p2 p3 p4 : Nat) (f1 f2 f3 : Int) (kb vb : List UInt8) (e1 : r8D c at_ f = (n1, p1, f1)) (e2 : r8D c p1 f1 = (n2, p2, f2)) (e3 : rfD c n2 p2 f2 = (kb, p3, f3)) (f4 : Int) (hf : ¬ f4 = 0) (e4 : rrD c p3 f3 = (vb, p4, f4)) : Calls Try.prog 44 #[.pointer (some ⟨q, 0, none⟩)] w fun e w' => e = .returned (.tuple #[zR.val, .int .i64 110]) ∧ Rd w' q v c p4 f4 ∧ Fx (fun k => k = q) w w' := by
  have hn2 : n2 < 256 := by have := r8_lt c p1 f1; rw [e2] at this; exact this
  have nobz : NoB z32 := nob32 _ _ _ (slc _ _ _) (slc _ _ _)
  refine calls_of_args [.pointer (some ⟨q, 0, none⟩)] Try.func44 rfl 29 Try.ntmps44 (by show 1 ≤ 29; decide) ?_
  refine EW.seq ?_
  refine EW.region ?_
  obtain ⟨wa, q2, ra, ba, bea, hqa⟩ := new32 w
  refine WL.new rfl rfl ra ?_
  first | refine WL.assign rfl rfl rfl ?_
  refine WL.done ?_
  refine EW.on ?_
  refine EW.seq ?_
  refine EW.region ?_
  obtain ⟨wb, q4, rb, bb, beb, hqb⟩ := new32 wa
  refine WL.new rfl rfl rb ?_
  have R0 : Rs w wb q q2 q4 v c at_ f z32 z32 := ⟨(hr.below bea).below beb, ba.on beb, bb, Fx.of_below (bea.trans (beb.mono bea.size)), by omega, by have := bea.size; omega, by have := ba.lt; omega⟩
  refine WL.done ?_
  refine EW.on ?_
  refine EW.seq ?_
  refine EW.region ?_
  first | refine WL.move rfl rfl rfl ?_
  refine WL.call [.pointer (some ⟨q, 0, none⟩)] enter50 rfl rfl rfl (ru8_any q v c at_ f _ R0.rd hl) ?_
  rintro _ w1 ⟨rfl, g1, x1⟩
  rw [e1] at g1 ⊢
  have R1 := R0.step g1 x1
  refine ⟨_, rfl, ?_⟩
  refine WL.field rfl rfl rfl (rfld0 q4 _) ?_
  obtain ⟨w2, s2, b2, y2⟩ := stI R1.b4 (show 0 < 3 by decide) (n1 : Int)
  have R2 := R1.cell nobz b2 y2
  refine WL.store rfl rfl rfl s2 ?_
  refine WL.done ?_
  refine EW.on ?_
  refine EW.seq ?_
  refine EW.region ?_
  first | refine WL.move rfl rfl rfl ?_
  first | refine WL.move rfl rfl rfl ?_
  refine WL.call [.pointer (some ⟨q, 0, none⟩)] enter50 rfl rfl rfl (ru8_any q v c p1 f1 _ R2.rd hl) ?_
  rintro _ w3 ⟨rfl, g3, x3⟩
  rw [e2] at g3 ⊢
  have R3 := R2.step g3 x3
  refine ⟨_, rfl, ?_⟩
  refine WL.call [.pointer (some ⟨q, 0, none⟩), .int .i64 (n2 : Int)] enter31 rfl rfl rfl (rfix_any q n2 v c p2 f2 _ R3.rd hl (by omega)) ?_
  rintro _ w4 ⟨uk, rfl, hk4, fk4, g4, x4⟩
  rw [e3] at g4 hk4
  have R4 := R3.step g4 x4
  refine ⟨_, rfl, ?_⟩
  refine WL.field rfl rfl rfl (rfld1 q4 _) ?_
  obtain ⟨ko, kn, kc, hke⟩ := hk4.sl
  obtain ⟨w5, s5, b5, y5⟩ := stS R4.b4 (show 1 < 3 by decide) ko kn kc
  rw [← hke] at s5 b5
  have n5 : NoB (z32.set 0 (.int .i64 (n1 : Int))) := nob32 _ _ _ (slc _ _ _) (slc _ _ _)
  have R5 := R4.cell n5 b5 y5
  have hk5 := hk4.fxB R4.b4 n5 y5
  refine WL.store rfl rfl rfl s5 ?_
  refine WL.done ?_
  refine EW.on ?_
  refine EW.seq ?_
  refine EW.region ?_
  first | refine WL.move rfl rfl rfl ?_
  refine WL.call [.pointer (some ⟨q, 0, none⟩), .int .i64 900] enter51 rfl rfl rfl (rrun_any q v c p3 f3 _ R5.rd hl) ?_
  rintro _ w6 ⟨uv, rfl, hv6, fv6, g6, x6⟩
  rw [e4] at g6 hv6
  have R6 := R5.step g6 x6
  have hk6 := hk5.fxB R5.rd.bl (nob78 _ _ _ R5.rd.hs.sl) x6
  refine ⟨_, rfl, ?_⟩
  refine WL.field rfl rfl rfl (rfld2 q4 _) ?_
  obtain ⟨vo, vn, vc, hve⟩ := hv6.sl
  obtain ⟨w7, s7, b7, y7⟩ := stS R6.b4 (show 2 < 3 by decide) vo vn vc
  rw [← hve] at s7 b7
  have n7 : NoB ((z32.set 0 (.int .i64 (n1 : Int))).set 1 uk) := nob32 _ _ _ hk4.sl (slc _ _ _)
  have R7 := R6.cell n7 b7 y7
  have okx : (⟨(n1 : Int), uk, uv, kb, vb⟩ : RV).ok w7 := ⟨hk6.fxB R6.b4 n7 y7, hv6.fxB R6.b4 n7 y7⟩
  obtain ⟨x, hxx⟩ : ∃ x : RV, x = ⟨(n1 : Int), uk, uv, kb, vb⟩ := ⟨_, rfl⟩
  rw [← hxx] at okx
  have hxc : ((z32.set 0 (.int .i64 (n1 : Int))).set 1 uk).set 2 uv = x.cs := by rw [hxx]; rfl
  rw [hxc] at R7
  have fr1 : Fresh w x.vk := fun k hk => by rw [hxx] at hk; have := fk4 k hk; have := R3.fx.size; omega
  have fr2 : Fresh w x.vv := fun k hk => by rw [hxx] at hk; have := fv6 k hk; have := R5.fx.size; omega
  refine WL.store rfl rfl rfl s7 ?_
  refine WL.done ?_
  refine EW.on ?_
  refine EW.seq ?_
  refine EW.seq ?_
  refine EW.region ?_
  first | refine WL.move rfl rfl rfl ?_
  refine WL.call [.pointer (some ⟨q, 0, none⟩)] enter52 rfl rfl rfl (fault_f q v c p4 f4 hf _ R7.rd) ?_
  rintro _ w8 ⟨rfl, be8⟩
  have R8 := R7.below be8
  refine ⟨_, rfl, ?_⟩
  first | refine WL.move rfl rfl rfl ?_
  first | refine WL.extract rfl rfl rfl (ext_2 _ _ _).1 ?_
  first | refine WL.extract rfl rfl rfl (ext_2 _ _ _).2 ?_
  first | refine WL.assign rfl rfl rfl ?_
  first | refine WL.assign rfl rfl rfl ?_
  refine WL.done ?_
  refine EW.on ?_
  refine EW.seq ?_
  refine EW.region ?_
  first | refine WL.move rfl rfl rfl ?_
  first | refine WL.bin rfl rfl rfl rfl (int_ne_f rfl _ _ _) ?_ | refine WL.bin rfl rfl rfl rfl (int_ne_t ‹_› _ _ _) ?_ | refine WL.bin rfl rfl rfl rfl (int_ne_f ‹_› _ _ _) ?_ | refine WL.bin rfl rfl rfl rfl (int_ne_t (by decide) _ _ _) ?_ | refine WL.bin rfl rfl rfl rfl (int_ne_d _ _ _ _ _) ?_
  refine WL.done ?_
  refine EW.on ?_
  refine EW.cond_t rfl ?_
  refine EW.seq ?_
  refine EW.region ?_
  refine WL.buildN [] rfl rfl rfl (bld32z _) ?_
  obtain ⟨w9, s9, b9, y9⟩ := st32 (r := zR) R8.b2 rfl (RV.ok.one (w := w8) ⟨Has.nil _, Has.nil _⟩)
  have R9 := R8.cell2 nobz b9 y9
  refine WL.store rfl rfl rfl s9 ?_
  first | refine WL.assign rfl rfl rfl ?_
  refine WL.done ?_
  refine EW.on ?_
  refine EW.ret ?_
  refine pr_then ?_
  exact EW.returnsCT Try.results44 rfl rfl R9.b2 Try.underlying32 rfl (info32 zR) ⟨rfl, R9.rd, R9.fx⟩
end Go.Proofs.Yteghbkeaojbdgaa
