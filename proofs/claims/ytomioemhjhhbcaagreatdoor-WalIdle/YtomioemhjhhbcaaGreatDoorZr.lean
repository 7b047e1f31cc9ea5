import Derived.Test.YtomioemhjhhbcaaGreatDoorZqG
set_option linter.unusedVariables false
set_option linter.unusedSimpArgs false
namespace Go.Proofs.YtomioemhjhhbcaaGreatDoor
open Go.RowKit

/-- The law's room, with its disk. -/
structure Rm (w : World) (L : Lay) (c : Nat) (s : Nat → List UInt8) (q ql p more : Nat) (v : Value) (ps : List (List UInt8)) : Prop where
  dk : Dk w L (4 * p + 1 + more) s 0 c
  rm : Blk w q (rmC (some ⟨L.p, 0, none⟩) (some ⟨ql, 0, none⟩) p more v) 43
  lg : Blk w ql (lgC L.p p .nilIface) 87
  os : Os w 0 v ps
  ds : Dst p more s ps
  fq : ¬ L.F q
  fl : ¬ L.F ql
  fv : ∀ k, v.ownBlock = some k → ¬ L.F k
  pl : ∀ x ∈ ps, x.length = 1024
theorem Rm.on {w w' : World} {L : Lay} {c : Nat} {s : Nat → List UInt8} {q ql p more : Nat} {v : Value} {ps : List (List UInt8)} (h : Rm w L c s q ql p more v ps) (hb : Below w.heap.size w w') : Rm w' L c s q ql p more v ps :=
  ⟨h.dk.below hb, h.rm.on hb, h.lg.on hb, h.os.below hb, h.ds, h.fq, h.fl, h.fv, h.pl⟩
theorem Dk.fxS {S : Nat → Prop} {w w' : World} {L : Lay} {N : Nat} {s : Nat → List UInt8} {m c : Nat} (h : Dk w L N s m c) (f : Fx S w w') (hS : ∀ k, L.F k → ¬ S k) : Dk w' L N s m c := by
  obtain ⟨D, y1, y2⟩ := h.ex
  exact ⟨D, y1.fx f hS, y2⟩
theorem ldB {W : World} {q j : Nat} {cs : List Value} {t : TypeId} {b : Bool} (hb : Blk W q cs t) (h : cs[j]? = some (.bool b)) : (Instr.loadAt 4 (.pointer (some ⟨q, j, none⟩))).run Tryz.prog W = .ok (.bool b) W := by
  have hc : W.cell? ⟨q, j, none⟩ = some (.bool b) := (hb.cell j).trans h
  have hf := hb.frozen j
  go_simp
theorem ldF {W : World} {q j : Nat} {cs : List Value} {t : TypeId} {v : Value} (hb : Blk W q cs t) (h : cs[j]? = some v) : (Instr.loadAt 32 (.pointer (some ⟨q, j, none⟩))).run Tryz.prog W = .ok v W := by
  have hc : W.cell? ⟨q, j, none⟩ = some v := (hb.cell j).trans h
  have hf := hb.frozen j
  go_simp
theorem ldD {W : World} {q j : Nat} {cs : List Value} {t : TypeId} {o : Option Addr} (hb : Blk W q cs t) (h : cs[j]? = some (.pointer o)) : (Instr.loadAt 40 (.pointer (some ⟨q, j, none⟩))).run Tryz.prog W = .ok (.pointer o) W := by
  have hc : W.cell? ⟨q, j, none⟩ = some (.pointer o) := (hb.cell j).trans h
  have hf := hb.frozen j
  go_simp
theorem len32 (ao : Option Addr) (n c : Nat) (W : World) (ty : TypeId) : (Builtin.len_ #[32] ty #[.slice ao n c]).run Tryz.prog W = .ok (.int .i64 (n : Int)) W := by go_simp
theorem ld34 {W : World} {q : Nat} {vp vf : Value} {cr an : Bool} {t : TypeId} (hb : Blk W q (tnC vp vf cr an) t) : (Instr.loadAt 34 (.pointer (some ⟨q, 0, none⟩))).run Tryz.prog W = .ok (.agg (tnC vp vf cr an).toArray) W :=
  run_loadR hb Tryz.underlying34 rfl (by show _ = some 4; kernel_rfl)
theorem enter3 (args : Array Value) (W : World) : (callFunc 3 args).run Tryz.prog W = .ok (.enter 3 args) W := run_enter Tryz.func3 (by kernel_rfl) (by kernel_rfl) args W
theorem enter6 (args : Array Value) (W : World) : (callFunc 6 args).run Tryz.prog W = .ok (.enter 6 args) W := run_enter Tryz.func6 (by kernel_rfl) (by kernel_rfl) args W
theorem enter7 (args : Array Value) (W : World) : (callFunc 7 args).run Tryz.prog W = .ok (.enter 7 args) W := run_enter Tryz.func7 (by kernel_rfl) (by kernel_rfl) args W
theorem enter11 (args : Array Value) (W : World) : (callFunc 11 args).run Tryz.prog W = .ok (.enter 11 args) W := run_enter Tryz.func11 (by kernel_rfl) (by kernel_rfl) args W
theorem enter13 (args : Array Value) (W : World) : (callFunc 13 args).run Tryz.prog W = .ok (.enter 13 args) W := run_enter Tryz.func13 (by kernel_rfl) (by kernel_rfl) args W
theorem enter21 (args : Array Value) (W : World) : (callFunc 21 args).run Tryz.prog W = .ok (.enter 21 args) W := run_enter Tryz.func21 (by kernel_rfl) (by kernel_rfl) args W
theorem enter23 (args : Array Value) (W : World) : (callFunc 23 args).run Tryz.prog W = .ok (.enter 23 args) W := run_enter Tryz.func23 (by kernel_rfl) (by kernel_rfl) args W
theorem enter24 (args : Array Value) (W : World) : (callFunc 24 args).run Tryz.prog W = .ok (.enter 24 args) W := run_enter Tryz.func24 (by kernel_rfl) (by kernel_rfl) args W
theorem enter33 (args : Array Value) (W : World) : (callFunc 33 args).run Tryz.prog W = .ok (.enter 33 args) W := run_enter Tryz.func33 (by kernel_rfl) (by kernel_rfl) args W
theorem enter52 (args : Array Value) (W : World) : (callFunc 52 args).run Tryz.prog W = .ok (.enter 52 args) W := run_enter Tryz.func52 (by kernel_rfl) (by kernel_rfl) args W
theorem enter67 (args : Array Value) (W : World) : (callFunc 67 args).run Tryz.prog W = .ok (.enter 67 args) W := run_enter Tryz.func67 (by kernel_rfl) (by kernel_rfl) args W
theorem build70 (W : World) : (Instr.build 70 ([] : List (Nat × Value)).toArray).run Tryz.prog W = .ok (.agg (lossC (.slice none 0 0) 0 0).toArray) W := build38z W
theorem aftL_pl {ps : List (List UInt8)} (h : ∀ x ∈ ps, x.length = 1024) : ∀ (acc : List (Nat × UInt8)), ∀ x ∈ aftL ps acc, x.length = 1024 := fun acc => by
  unfold aftL
  induction acc generalizing ps with
  | nil => exact h
  | cons a r ih =>
    rw [List.foldl_cons]
    exact ih (fun x hx => (List.mem_or_eq_of_mem_set hx).elim (h x) (fun e => by rw [e]; exact pgB_len _ _))
theorem Os.lt {w : World} {b : Nat} {v : Value} {xs : List (List UInt8)} (h : Os w b v xs) {k : Nat} (hk : v.ownBlock = some k) : k < w.heap.size := by
  obtain ⟨cur, hc⟩ := own_type h.row hk
  rcases Nat.lt_or_ge k w.heap.size with hl | hl
  · exact hl
  · rw [Array.getElem?_eq_none hl] at hc; cases hc
set_option maxRecDepth 100000 in
set_option maxHeartbeats 1000000 in
theorem plays_ok {w : World} {L : Lay} {c : Nat} {s : Nat → List UInt8} {q ql p more : Nat} {v : Value} {ps : List (List UInt8)} (h : Rm w L c s q ql p more v ps) (hp1 : 1 ≤ p) (hp2 : p ≤ 20) (hmore : more ≤ 3) (hcal : c ≤ 1000) {vp : Value} {gs : List Gp} (hg0 : Gs w vp gs) : Calls Tryz.prog 6 #[.pointer (some ⟨q, 0, none⟩), .agg (tnC vp (.slice none 0 0) false false).toArray] w fun e w' => e = .returned (.bool true) ∧ ∃ L' c' s' v', Rm w' L' c' s' q ql p more v' (aftL ps (wantP p (gs.take 20))) ∧ Fx (fun k => k = q ∨ L.F k) w w' ∧ (∀ k, L'.F k → L.F k ∨ w.heap.size ≤ k) ∧ c' ≤ c + 128 := by
  obtain ⟨w1, q3, r1, b1, l1, hq3⟩ := box34 vp (.slice none 0 0) false false w
  have R1 := h.on l1
  refine calls_of_args [.pointer (some ⟨q, 0, none⟩), .agg (tnC vp (.slice none 0 0) false false).toArray] Tryz.func6 rfl 189 Tryz.ntmps6 (by show 2 ≤ 189; decide) ?_
  refine EW.seq ?_
  refine EW.region ?_
  refine WL.box rfl rfl rfl r1 ?_
  first | refine WL.assign rfl rfl rfl ?_
  refine WL.done ?_
  refine EW.on ?_
  refine EW.seq ?_
  refine EW.region ?_
  first | refine WL.move rfl rfl rfl ?_
  refine WL.load rfl rfl rfl (ld34 b1) ?_
  refine WL.call [.pointer (some ⟨q, 0, none⟩), .agg (tnC vp (.slice none 0 0) false false).toArray] enter7 rfl rfl rfl (wanted_ok R1.rm R1.os R1.ds.len (by omega) (by omega) (hg0.below l1)) ?_
  rintro _ w2 ⟨vo, va, lo, rfl, pw, heq, ob, fo, oa, l2⟩
  refine ⟨_, rfl, ?_⟩
  have R2 := R1.on l2
  have b2 := b1.on l2
  have l12 := l1.trans (l2.mono l1.size)
  first | refine WL.move rfl rfl rfl ?_
  first | refine WL.extract rfl rfl rfl (ext_2 _ _ _).1 ?_
  first | refine WL.extract rfl rfl rfl (ext_2 _ _ _).2 ?_
  first | refine WL.assign rfl rfl rfl ?_
  first | refine WL.assign rfl rfl rfl ?_
  refine WL.done ?_
  refine EW.on ?_
  refine EW.seq ?_
  refine EW.region ?_
  first | refine WL.assign rfl rfl rfl ?_
  refine WL.done ?_
  refine EW.on ?_
  refine EW.seq ?_
  refine EW.seq ?_
  refine EW.region ?_
  refine WL.field rfl rfl rfl (fldT q3 1 (by decide) _) ?_
  refine WL.load rfl rfl rfl (ldB b2 rfl) ?_
  first | refine WL.move rfl rfl rfl ?_
  refine WL.skip _ rfl rfl rfl ?_
  refine WL.skip _ rfl rfl rfl ?_
  refine WL.skip _ rfl rfl rfl ?_
  refine WL.skip _ rfl rfl rfl ?_
  first | refine WL.pick rfl rfl rfl rfl ?_
  refine WL.done ?_
  refine EW.on ?_
  refine EW.cond_f rfl ?_
  refine EW.skip ?_
  refine EW.on ?_
  refine EW.seq ?_
  refine EW.region ?_
  first | refine WL.move rfl rfl rfl ?_
  first | refine WL.nilc rfl rfl rfl ?_
  refine WL.field rfl rfl rfl (fld44 q 4 (by decide) _) ?_
  refine WL.load rfl rfl rfl (ldc42 R2.rm rfl) ?_
  first | refine WL.assign rfl rfl rfl ?_
  refine WL.done ?_
  refine EW.on ?_
  refine EW.seq ?_
  refine EW.region ?_
  first | refine WL.move rfl rfl rfl ?_
  first | refine WL.nilc rfl rfl rfl ?_
  refine WL.field rfl rfl rfl (fld44 q 1 (by decide) _) ?_
  refine WL.load rfl rfl rfl (ldcP R2.rm rfl) ?_
  first | refine WL.move rfl rfl rfl ?_
  refine WL.call [.pointer (some ⟨ql, 0, none⟩), vo] enter9 rfl rfl rfl (commit_any R2.dk R2.lg hp1 hp2 hmore (by omega) R2.ds pw (wantP_nodup p _) (wantP_lt p (by omega) _) (by have := wantP_len p (gs.take 20); rw [List.length_take] at this; omega) heq (fun x hx k hk hF => by have := (ob x hx).base k hk; have := h.dk.lt k hF; have := l1.size; omega) (fun x hx k hk => ((ob x hx).lt hk).1)) ?_
  rintro _ w3 ⟨rfl, L3, s3, c3, t3, d3, ds3, hc3⟩
  refine ⟨_, rfl, ?_⟩
  have b3 := b2.fx t3.fx (fun hF => by have := h.dk.lt _ hF; omega)
  have rm3 := R2.rm.fx t3.fx R2.fq
  have lg3 := R2.lg.fx t3.fx R2.fl
  have oa3 := oa.fx t3.fx (fun k hk hF => by have := oa.base k hk; have := h.dk.lt k hF; have := l1.size; omega)
  first | refine WL.assign rfl rfl rfl ?_
  refine WL.done ?_
  refine EW.on ?_
  refine EW.seq ?_
  refine EW.region ?_
  refine WL.field rfl rfl rfl (fldT q3 2 (by decide) _) ?_
  refine WL.load rfl rfl rfl (ldF b3 rfl) ?_
  first | refine WL.assign rfl rfl rfl ?_
  refine WL.done ?_
  refine EW.on ?_
  refine EW.seq ?_
  refine EW.seq ?_
  refine EW.region ?_
  first | refine WL.move rfl rfl rfl ?_
  refine WL.len rfl rfl rfl (len32 _ _ _ _ _) ?_
  refine WL.bin rfl rfl rfl rfl (int_gt_f (by decide) _ _ _) ?_
  refine WL.done ?_
  refine EW.on ?_
  refine EW.cond_f rfl ?_
  refine EW.skip ?_
  refine EW.on ?_
  refine EW.seq ?_
  refine EW.block ?_
  refine EW.seq ?_
  rcases Nat.eq_zero_or_pos lo.length with hl0 | hl0
  · refine EW.region ?_
    first | refine WL.move rfl rfl rfl ?_
    refine WL.len rfl rfl rfl (pw.len _ _) ?_
    refine WL.bin rfl rfl rfl rfl (int_eq_t (by omega) _ _ _) ?_
    first | refine WL.move rfl rfl rfl ?_
    refine WL.skip _ rfl rfl rfl ?_
    refine WL.skip _ rfl rfl rfl ?_
    first | refine WL.pick rfl rfl rfl rfl ?_
    first | refine WL.assign rfl rfl rfl ?_
    refine WL.done ?_
    refine EW.on ?_
    refine EW.cond_t rfl ?_
    refine EW.seq ?_
    refine EW.region ?_
    first | refine WL.move rfl rfl rfl ?_
    first | refine WL.nilc rfl rfl rfl ?_
    refine WL.field rfl rfl rfl (fld44 q 0 (by decide) _) ?_
    refine WL.load rfl rfl rfl (ldD rm3 rfl) ?_
    refine WL.buildN [] rfl rfl rfl (build70 _) ?_
    have d3' := d3
    rw [← t3.p]
    refine WL.call [.pointer (some ⟨L3.p, 0, none⟩), .int .i64 0, .agg (lossC (.slice none 0 0) 0 0).toArray] enter21 rfl rfl rfl (karm0 d3 _ 0 0) ?_
    rintro _ w4 ⟨rfl, L4, t4, d4⟩
    refine ⟨_, rfl, ?_⟩
    have nF3 : ∀ k, k < w2.heap.size → ¬ L.F k → ¬ L3.F k := fun k hk hn hF => (t3.own k hF).elim hn (fun h => by omega)
    have rm4 := rm3.fx t4.fx (nF3 q R2.rm.lt R2.fq)
    have lg4 := lg3.fx t4.fx (nF3 ql R2.lg.lt R2.fl)
    have vaF : ∀ k, va.ownBlock = some k → k < w2.heap.size ∧ ¬ L.F k := fun k hk => ⟨oa.lt hk, fun hF => by have := oa.base k hk; have := h.dk.lt k hF; have := l1.size; omega⟩
    have oa4 := oa3.fx t4.fx (fun k hk => nF3 k (vaF k hk).1 (vaF k hk).2)
    have T4 := t3.trans t4
    obtain ⟨w5, s5, rm5, x5⟩ := stc42 oa4.shape (j := 4) rm4 rfl
    refine WL.done ?_
    refine EW.on ?_
    refine EW.seq ?_
    refine EW.region ?_
    first | refine WL.move rfl rfl rfl ?_
    first | refine WL.move rfl rfl rfl ?_
    first | refine WL.nilc rfl rfl rfl ?_
    refine WL.field rfl rfl rfl (fld44 q 4 (by decide) _) ?_
    refine WL.store rfl rfl rfl s5 ?_
    have nF4 : ∀ k, k < w2.heap.size → ¬ L.F k → ¬ L4.F k := fun k hk hn hF => (T4.own k hF).elim hn (fun h => by omega)
    have q4F := nF4 q R2.rm.lt R2.fq
    have d5 := d4.fxS x5 (fun k hk e => q4F (e ▸ hk))
    have lg5 := lg4.fx x5 (ne_type ⟨_, lg4⟩ rm4 (by decide))
    have oa5 := oa4.fx x5 (fun k hk => ne_type (own_type oa4.row hk) rm4 (by decide))
    have R5 : Rm w5 L4 c3 s3 q ql p more va (aftL ps (wantP p (gs.take 20))) := ⟨d5, by rw [T4.p]; exact rm5, by rw [T4.p]; exact lg5, oa5.mono (Nat.zero_le _), ds3, q4F, nF4 ql R2.lg.lt R2.fl, fun k hk => nF4 k (vaF k hk).1 (vaF k hk).2, aftL_pl h.pl _⟩
    refine WL.done ?_
    refine EW.on ?_
    refine EW.seq ?_
    refine EW.region ?_
    first | refine WL.move rfl rfl rfl ?_
    refine WL.bin rfl rfl rfl rfl (eq24n _ _) ?_
    first | refine WL.move rfl rfl rfl ?_
    first | refine WL.move rfl rfl rfl ?_ | refine WL.skip _ rfl rfl rfl ?_
    refine WL.call [.pointer (some ⟨q, 0, none⟩)] enter12 rfl rfl rfl (clean_ok R5.dk R5.rm R5.os R5.ds.len (by omega) (by omega) R5.pl R5.ds.img) ?_
    rintro _ w6 ⟨rfl, l6⟩
    refine ⟨_, rfl, ?_⟩
    have R6 := R5.on l6
    first | refine WL.pick rfl rfl rfl rfl ?_
    first | refine WL.move rfl rfl rfl ?_
    first | refine WL.move rfl rfl rfl ?_ | refine WL.skip _ rfl rfl rfl ?_
    first | refine WL.move rfl rfl rfl ?_ | refine WL.skip _ rfl rfl rfl ?_
    refine WL.call [.pointer (some ⟨q, 0, none⟩), va] enter13 rfl rfl rfl (stands_ok R6.dk R6.rm R6.lg (by omega) (by omega) R6.os R6.ds.len R6.ds.hom) ?_
    rintro _ w7 ⟨rfl, l7⟩
    refine ⟨_, rfl, ?_⟩
    have R7 := R6.on l7
    first | refine WL.pick rfl rfl rfl rfl ?_
    first | refine WL.assign rfl rfl rfl ?_
    refine WL.done ?_
    refine EW.on ?_
    refine EW.ret ?_
    refine pr_block ?_
    refine pr_then ?_
    refine EW.returns Tryz.results6 rfl ⟨rfl, L4, c3, s3, va, R7, ?_, fun k hk => (T4.own k hk).imp id (fun h => by have := l12.size; omega), hc3⟩
    have f1 : Fx (fun k => k = q ∨ L.F k) w w4 := (Fx.of_below l12).trans (T4.fx.mono (fun k _ h => .inr h)) (fun i _ h => h)
    exact ((f1.trans x5 (fun i _ e => .inl e)).then_below l6).then_below l7
  · refine EW.region ?_
    first | refine WL.move rfl rfl rfl ?_
    refine WL.len rfl rfl rfl (pw.len _ _) ?_
    refine WL.bin rfl rfl rfl rfl (int_eq_f (by omega) _ _ _) ?_
    first | refine WL.move rfl rfl rfl ?_
    first | refine WL.move rfl rfl rfl ?_ | refine WL.skip _ rfl rfl rfl ?_
    refine WL.bin rfl rfl rfl rfl (int_eq_t rfl _ _ _) ?_
    first | refine WL.pick rfl rfl rfl rfl ?_
    first | refine WL.assign rfl rfl rfl ?_
    refine WL.done ?_
    refine EW.on ?_
    refine EW.cond_t rfl ?_
    refine EW.seq ?_
    refine EW.region ?_
    first | refine WL.move rfl rfl rfl ?_
    first | refine WL.nilc rfl rfl rfl ?_
    refine WL.field rfl rfl rfl (fld44 q 0 (by decide) _) ?_
    refine WL.load rfl rfl rfl (ldD rm3 rfl) ?_
    refine WL.buildN [] rfl rfl rfl (build70 _) ?_
    have d3' := d3
    rw [← t3.p]
    refine WL.call [.pointer (some ⟨L3.p, 0, none⟩), .int .i64 0, .agg (lossC (.slice none 0 0) 0 0).toArray] enter21 rfl rfl rfl (karm0 d3 _ 0 0) ?_
    rintro _ w4 ⟨rfl, L4, t4, d4⟩
    refine ⟨_, rfl, ?_⟩
    have nF3 : ∀ k, k < w2.heap.size → ¬ L.F k → ¬ L3.F k := fun k hk hn hF => (t3.own k hF).elim hn (fun h => by omega)
    have rm4 := rm3.fx t4.fx (nF3 q R2.rm.lt R2.fq)
    have lg4 := lg3.fx t4.fx (nF3 ql R2.lg.lt R2.fl)
    have vaF : ∀ k, va.ownBlock = some k → k < w2.heap.size ∧ ¬ L.F k := fun k hk => ⟨oa.lt hk, fun hF => by have := oa.base k hk; have := h.dk.lt k hF; have := l1.size; omega⟩
    have oa4 := oa3.fx t4.fx (fun k hk => nF3 k (vaF k hk).1 (vaF k hk).2)
    have T4 := t3.trans t4
    obtain ⟨w5, s5, rm5, x5⟩ := stc42 oa4.shape (j := 4) rm4 rfl
    refine WL.done ?_
    refine EW.on ?_
    refine EW.seq ?_
    refine EW.region ?_
    first | refine WL.move rfl rfl rfl ?_
    first | refine WL.move rfl rfl rfl ?_
    first | refine WL.nilc rfl rfl rfl ?_
    refine WL.field rfl rfl rfl (fld44 q 4 (by decide) _) ?_
    refine WL.store rfl rfl rfl s5 ?_
    have nF4 : ∀ k, k < w2.heap.size → ¬ L.F k → ¬ L4.F k := fun k hk hn hF => (T4.own k hF).elim hn (fun h => by omega)
    have q4F := nF4 q R2.rm.lt R2.fq
    have d5 := d4.fxS x5 (fun k hk e => q4F (e ▸ hk))
    have lg5 := lg4.fx x5 (ne_type ⟨_, lg4⟩ rm4 (by decide))
    have oa5 := oa4.fx x5 (fun k hk => ne_type (own_type oa4.row hk) rm4 (by decide))
    have R5 : Rm w5 L4 c3 s3 q ql p more va (aftL ps (wantP p (gs.take 20))) := ⟨d5, by rw [T4.p]; exact rm5, by rw [T4.p]; exact lg5, oa5.mono (Nat.zero_le _), ds3, q4F, nF4 ql R2.lg.lt R2.fl, fun k hk => nF4 k (vaF k hk).1 (vaF k hk).2, aftL_pl h.pl _⟩
    refine WL.done ?_
    refine EW.on ?_
    refine EW.seq ?_
    refine EW.region ?_
    first | refine WL.move rfl rfl rfl ?_
    refine WL.bin rfl rfl rfl rfl (eq24n _ _) ?_
    first | refine WL.move rfl rfl rfl ?_
    first | refine WL.move rfl rfl rfl ?_ | refine WL.skip _ rfl rfl rfl ?_
    refine WL.call [.pointer (some ⟨q, 0, none⟩)] enter12 rfl rfl rfl (clean_ok R5.dk R5.rm R5.os R5.ds.len (by omega) (by omega) R5.pl R5.ds.img) ?_
    rintro _ w6 ⟨rfl, l6⟩
    refine ⟨_, rfl, ?_⟩
    have R6 := R5.on l6
    first | refine WL.pick rfl rfl rfl rfl ?_
    first | refine WL.move rfl rfl rfl ?_
    first | refine WL.move rfl rfl rfl ?_ | refine WL.skip _ rfl rfl rfl ?_
    first | refine WL.move rfl rfl rfl ?_ | refine WL.skip _ rfl rfl rfl ?_
    refine WL.call [.pointer (some ⟨q, 0, none⟩), va] enter13 rfl rfl rfl (stands_ok R6.dk R6.rm R6.lg (by omega) (by omega) R6.os R6.ds.len R6.ds.hom) ?_
    rintro _ w7 ⟨rfl, l7⟩
    refine ⟨_, rfl, ?_⟩
    have R7 := R6.on l7
    first | refine WL.pick rfl rfl rfl rfl ?_
    first | refine WL.assign rfl rfl rfl ?_
    refine WL.done ?_
    refine EW.on ?_
    refine EW.ret ?_
    refine pr_block ?_
    refine pr_then ?_
    refine EW.returns Tryz.results6 rfl ⟨rfl, L4, c3, s3, va, R7, ?_, fun k hk => (T4.own k hk).imp id (fun h => by have := l12.size; omega), hc3⟩
    have f1 : Fx (fun k => k = q ∨ L.F k) w w4 := (Fx.of_below l12).trans (T4.fx.mono (fun k _ h => .inr h)) (fun i _ h => h)
    exact ((f1.trans x5 (fun i _ e => .inl e)).then_below l6).then_below l7
end Go.Proofs.YtomioemhjhhbcaaGreatDoor
