import Derived.Test.YtplfelfmkgjijaaNq
set_option linter.unusedVariables false
set_option linter.unusedSimpArgs false
namespace Go.Proofs.Ytplfelfmkgjijaa
open Go.RowKit

structure Z3 (w4 : World) (v v2 : Value) (L : List Fl) (W : World) : Prop where
  fo : Fo W v2 L
  fx : Fx (fun k => v.ownBlock = some k) w4 W
  nw : Nw w4 v v2
theorem off_of {w : World} {v : Value} {b : List UInt8} (h : Has w v b) {k : Nat} (hk : w.heap.size ≤ k) : Off v b k := by
  by_cases e2 : v.ownBlock = some k
  · rcases h.blk e2 with e3 | e3
    · exact .inl e3
    · omega
  · exact .inr e2
set_option maxRecDepth 100000 in
set_option maxHeartbeats 4000000 in
theorem radd_any {w : World} {q : Nat} {nodes most num : Int} {v : Value} {R : List Fl} (h : Rn w q nodes most num v R) (x : Fl) (hx : Has w x.v x.b) (hl : x.b.length ≤ 140737488355328) (hnum : 0 ≤ num ∧ num < 9000000000000000000) (hRl : R.length ≤ 100000) : Calls Try.prog 35 #[.pointer (some ⟨q, 0, none⟩), x.g] w fun e w' => e = .returned (.int .i64 num) ∧ ∃ v2 v', Rn w' q nodes most (num + 1) v2 (R ++ [⟨num, x.f, x.t, v', x.b⟩]) ∧ Fresh w v' ∧ Nw w v v2 ∧ Fx (fun k => k = q ∨ v.ownBlock = some k) w w' := by
  obtain ⟨w1, q3, r1, b1, l1, hq3, s1⟩ := box36 x w
  refine calls_of_args [.pointer (some ⟨q, 0, none⟩), x.g] Try.func35 rfl 31 Try.ntmps35 (by show 2 ≤ 31; decide) ?_
  refine EW.seq ?_
  refine EW.region ?_
  refine WL.box rfl rfl rfl r1 ?_
  first | refine WL.assign rfl rfl rfl ?_
  refine WL.done ?_
  refine EW.on ?_
  refine EW.seq ?_
  refine EW.region ?_
  refine WL.load rfl rfl rfl (ld36 b1) ?_
  refine WL.call [x.g] enter31 rfl rfl rfl (twin_any x _ (hx.below l1) hl) ?_
  rintro y2 w2 ⟨v', rfl, own2, l2⟩
  refine ⟨_, rfl, ?_⟩
  have s2 := l2.size
  have h2 := (h.on l1).on l2
  obtain ⟨w3, r3, b3, f3⟩ := st36 (y := ⟨x.n, x.f, x.t, v', x.b⟩) (b1.on l2) (sh_of own2.has)
  have l13 : Below w.heap.size w w3 := (bt l1 l2).trans (f3.below (fun k hk e => by omega) (by omega))
  obtain ⟨w4, r4, b4, f4⟩ := stI b3 (j := 0) (by show 0 < 4; decide) num
  replace b4 : Blk w4 q3 (Fl.cs ⟨num, x.f, x.t, v', x.b⟩) 36 := b4
  have s3 := f3.size
  have s4 := f4.size
  have l14 : Below w.heap.size w w4 := l13.trans (f4.below (fun k hk e => by omega) l13.size)
  have h3 := h.on l13
  have h4 := h.on l14
  have own4 := (own2.fx f3 (fun k hk e => own2.neT (b1.on l2) (by decide) (by rw [hk, e]))).fx f4 (fun k hk e => by have := own2.ownBlock k hk; omega)
  refine WL.store rfl rfl rfl r3 ?_
  refine WL.done ?_
  refine EW.on ?_
  refine EW.seq ?_
  refine EW.region ?_
  first | refine WL.move rfl rfl rfl ?_
  first | refine WL.nilc rfl rfl rfl ?_
  refine WL.field rfl rfl rfl (g67_3 q _) ?_
  refine WL.load rfl rfl rfl (ldI h3.bl rfl) ?_
  refine WL.field rfl rfl rfl (g36_0 q3 _) ?_
  refine WL.store rfl rfl rfl r4 ?_
  refine WL.done ?_
  refine EW.on ?_
  refine EW.seq ?_
  refine EW.ordB [(0, 0, 0), (1, 0, 0), (2, 0, 0), (3, 0, 0), (4, 0, 1), (5, 0, 1), (6, 1, 1), (7, 1, 0), (8, 0, 0), (9, 0, 0), (10, 1, 0)] (by kernel_rfl) rfl (by kernel_rfl) ?_
  simp only [opsZ, List.getD_cons_zero, List.getD_cons_succ]
  first | refine ZE.move rfl rfl rfl rfl sz0 ?_
  first | refine ZE.move rfl rfl rfl rfl sz0 ?_
  first | refine ZE.nilc rfl rfl rfl rfl sz0 ?_
  refine ZE.field rfl rfl rfl rfl sz0 (fun W => g67_2 q W) ?_
  refine ZE.load rfl rfl rfl rfl sz1 (fun W hW => ldR (h4.on (sb_of hW)).bl rfl) ?_
  refine ZE.load rfl rfl rfl rfl sz1 (fun W hW => ld36 (b4.on (sb_of hW))) ?_
  refine ZE.bsl [(0, Fl.g ⟨num, x.f, x.t, v', x.b⟩)] (fun v1 W => Fo W v1 [⟨num, x.f, x.t, v', x.b⟩] ∧ Below w4.heap.size w4 W) rfl rfl rfl (fun _ _ h => .inr h.2) (fun W hW => ?_) ?_
  · obtain ⟨v1, w', c1, so, lN, _⟩ := bslF1 ⟨num, x.f, x.t, v', x.b⟩ (sh_of own4.has) W
    exact ⟨v1, w', c1, so, bt hW lN⟩
  rintro v1 ⟨_, _⟩
  refine ZE.app (fun v2 W => Z3 w4 v v2 (R ++ [⟨num, x.f, x.t, v', x.b⟩]) W) rfl rfl rfl rfl (fun _ _ _ => .inl rfl) (fun W hW => ?_) ?_
  · obtain ⟨v2, w', c2, so, f, nw⟩ := (h4.on hW.2).fo.app hW.1.fs (by simp; omega) 31
    exact ⟨v2, w', c2, so, (Fx.of_below hW.2).and f, fun k hk => by
      rcases nw k hk with e | e
      · exact .inl e
      · exact .inr (by have := hW.2.size; omega)⟩
  rintro v2 ⟨Wx, hWx⟩
  obtain ⟨ao2, c2, hv2⟩ := hWx.fo.fs.sl
  have nw2 := hWx.nw
  clear hWx
  first | refine ZE.nilc rfl rfl rfl rfl sz0 ?_
  refine ZE.field rfl rfl rfl rfl sz0 (fun W => g67_2 q W) ?_
  refine ZE.store (fun W => Blk W q [.int .i64 nodes, .int .i64 most, v2, .int .i64 num] 67 ∧ Fo W v2 (R ++ [⟨num, x.f, x.t, v', x.b⟩]) ∧ Fx (fun k => k = q ∨ v.ownBlock = some k) w4 W) rfl rfl rfl (fun _ _ => .inl rfl) (fun W hW => ?_) ?_
  · have bq : Blk W q [.int .i64 nodes, .int .i64 most, v, .int .i64 num] 67 := h4.bl.fx hW.fx (fun e => h4.fo.ow.neT h4.bl (by decide) e)
    obtain ⟨w', rs, bs, fs⟩ := stR bq (j := 2) (by show 2 < 4; decide) ao2 _ c2
    rw [← hv2] at rs bs
    exact ⟨w', rs, bs, hW.fo.fx fs (fun b hb e => hW.fo.ow.neT bq (by decide) (by rw [hb, e])), (hW.fx.mono (fun i _ e => .inr e)).trans fs (fun i _ e => .inl e)⟩
  rintro W3 ⟨bq, fo3, f34⟩
  obtain ⟨w8, r8, b8', f8⟩ := stI bq (j := 3) (by show 3 < 4; decide) (num + 1)
  replace b8' : Blk w8 q [.int .i64 nodes, .int .i64 most, v2, .int .i64 (num + 1)] 67 := b8'
  have fin : Fx (fun k => k = q ∨ v.ownBlock = some k) w w8 := ((Fx.of_below l14).and f34).trans f8 (fun i _ e => .inl e)
  have f48 : Fx (fun k => k = q ∨ v.ownBlock = some k) w4 w8 := f34.trans f8 (fun i _ e => .inl e)
  have b48 : Blk w8 q3 (Fl.cs ⟨num, x.f, x.t, v', x.b⟩) 36 := b4.fx f48 (fun e => by
    rcases e with e | e
    · have := h.bl.lt; omega
    · have := h.fo.ow.lt e; omega)
  have hoq : ∀ {u : Value} {b : List UInt8}, Has w4 u b → Off u b q := fun hh => hh.offB h4.bl h4.nob
  have hfresh : Fresh w v' := fun k hk => by have := own2.ownBlock k hk; omega
  have hRn : Rn w8 q nodes most (num + 1) v2 (R ++ [⟨num, x.f, x.t, v', x.b⟩]) := by
    have hHas : ∀ y ∈ R ++ [(⟨num, x.f, x.t, v', x.b⟩ : Fl)], Has w4 y.v y.b ∧ ∀ k, v.ownBlock = some k → Off y.v y.b k := fun y hy => by
      rcases List.mem_append.1 hy with hy | hy
      · exact ⟨h4.hs y hy, h.af y hy⟩
      · rw [List.mem_singleton.1 hy]
        exact ⟨own4.has, fun k hk => .inr fun e => by have := hfresh k e; have := h.fo.ow.lt hk; omega⟩
    refine ⟨b8', fo3.fx f8 (fun b hb e => fo3.ow.neT bq (by decide) (by rw [hb, e])), fun y hy => ?_, fun y hy => ?_, fun y hy k hk => ?_⟩
    · obtain ⟨g1, g2⟩ := hHas y hy
      exact g1.fxo f48 (fun k hk => by
        rcases hk with e | e
        · rw [e]; exact hoq g1
        · exact g2 k e)
    · rcases List.mem_append.1 hy with hy | hy
      · exact h.lb y hy
      · rw [List.mem_singleton.1 hy]; exact hl
    · obtain ⟨g1, g2⟩ := hHas y hy
      rcases nw2 k hk with e | e
      · exact g2 k e
      · exact off_of g1 e
  have hNw : Nw w v v2 := fun k hk => by
    rcases nw2 k hk with e | e
    · exact .inl e
    · exact .inr (by have := l14.size; omega)
  refine EW.on ?_
  refine EW.seq ?_
  refine EW.region ?_
  first | refine WL.move rfl rfl rfl ?_
  first | refine WL.nilc rfl rfl rfl ?_
  refine WL.field rfl rfl rfl (g67_3 q _) ?_
  refine WL.load rfl rfl rfl (ldI bq rfl) ?_
  refine WL.bin rfl rfl rfl rfl (int_add (c := num + 1) (by rw [IntKind.wrap_i64]; omega) _ _ _) ?_
  first | refine WL.nilc rfl rfl rfl ?_
  refine WL.field rfl rfl rfl (g67_3 q _) ?_
  refine WL.store rfl rfl rfl r8 ?_
  refine WL.done ?_
  refine EW.on ?_
  refine EW.seq ?_
  refine EW.region ?_
  refine WL.field rfl rfl rfl (g36_0 q3 _) ?_
  refine WL.load rfl rfl rfl (ldI b48 rfl) ?_
  first | refine WL.assign rfl rfl rfl ?_
  refine WL.done ?_
  refine EW.on ?_
  refine EW.ret ?_
  exact EW.returns Try.results35 rfl ⟨rfl, v2, v', hRn, hfresh, hNw, fin⟩
theorem WL.sliceL {P : Program} {n : Nat} {ops : Array Oper} {Q : Exit → Act → World → Prop} {i : Nat} {ty : TypeId} {ps : String} {af : Array Edge} {gd : Option (Nat × Bool)} {r : List Oper} {e : List (Nat × Value)} {w : World} {t : TypeId} {x lo : Operand} {u ul v : Value} (hw : wantE ops e ⟨some i, .slice t x (some lo) none none, ty, ps, af, gd⟩ = some true) (hi : decide (i < n) = true) (hx : evE e x = some u) (hl : evE e lo = some ul) (hr : (Instr.sliceAt t u (some ul) none none).run P w = .ok v w) (k : WL P n ops Q r ((i, v) :: e) w) : WL P n ops Q (⟨some i, .slice t x (some lo) none none, ty, ps, af, gd⟩ :: r) e w :=
  WL.op i v hw rfl hi (fun a ha => by simp [execOp, ha.ev hx, ha.ev hl, hr, Result.andThen]) k
set_option maxRecDepth 100000 in
set_option maxHeartbeats 4000000 in
theorem gone_any {w : World} {q : Nat} {nodes most num : Int} {v : Value} {R : List Fl} (h : Rn w q nodes most num v R) (hRl : R.length ≤ 100000) (i : Nat) (hi : i < R.length) : Calls Try.prog 37 #[.pointer (some ⟨q, 0, none⟩), .int .i64 (i : Int)] w fun e w' => e = .returned (.tuple #[]) ∧ ∃ v2, Rn w' q nodes most num v2 (R.take i ++ R.drop (i + 1)) ∧ (∀ k, v2.ownBlock = some k → w.heap.size ≤ k) ∧ Fx (fun k => k = q) w w' := by
  obtain ⟨v1, v1b, p1, p2, pp⟩ := h.fo.fs.parts i hi
  obtain ⟨va, w1, r1, fo1, f1, n1⟩ := (Fo.nil w).app (pp w h.fo.fs).1 (by simp; omega) 31
  rw [List.nil_append] at fo1
  have l1 : Below w.heap.size w w1 := f1.below (fun k hk e => by cases e) (Nat.le_refl _)
  have h1 := h.on l1
  obtain ⟨vb, w2, r2, fo2, f2, n2⟩ := fo1.app (pp w1 h1.fo.fs).2 (by simp; omega) 31
  have hva : ∀ k, va.ownBlock = some k → w.heap.size ≤ k := fun k hk => by
    rcases n1 k hk with e | e
    · cases e
    · exact e
  have hvb : ∀ k, vb.ownBlock = some k → w.heap.size ≤ k := fun k hk => by
    rcases n2 k hk with e | e
    · exact hva k e
    · have := l1.size; omega
  have l2 : Below w.heap.size w w2 := l1.trans (f2.below (fun k hk e => by have := hva k e; omega) l1.size)
  have h2 := h.on l2
  obtain ⟨ao, c, hvbs⟩ := fo2.fs.sl
  obtain ⟨w3, r3, b3, f3⟩ := stR h2.bl (j := 2) (by show 2 < 4; decide) ao _ c
  rw [← hvbs] at r3 b3
  replace b3 : Blk w3 q [.int .i64 nodes, .int .i64 most, vb, .int .i64 num] 67 := b3
  have hsub : ∀ x ∈ R.take i ++ R.drop (i + 1), x ∈ R := fun x hx => by
    rcases List.mem_append.1 hx with hx | hx
    · exact List.mem_of_mem_take hx
    · exact List.mem_of_mem_drop hx
  have hRn : Rn w3 q nodes most num vb (R.take i ++ R.drop (i + 1)) := by
    refine ⟨b3, fo2.fx f3 (fun b hb e => fo2.ow.neT h2.bl (by decide) (by rw [hb, e])), fun x hx => ?_, fun x hx => h.lb x (hsub x hx), fun x hx k hk => ?_⟩
    · have hh := h2.hs x (hsub x hx)
      exact hh.fxo f3 (fun k hk => by have e : k = q := hk; rw [e]; exact hh.offB h2.bl h2.nob)
    · exact off_of (h.hs x (hsub x hx)) (hvb k hk)
  refine calls_of_args [.pointer (some ⟨q, 0, none⟩), .int .i64 (i : Int)] Try.func37 rfl 26 Try.ntmps37 (by show 2 ≤ 26; decide) ?_
  refine EW.seq ?_
  refine EW.region ?_
  first | refine WL.assign rfl rfl rfl ?_
  refine WL.done ?_
  refine EW.on ?_
  refine EW.seq ?_
  refine EW.region ?_
  first | refine WL.move rfl rfl rfl ?_
  first | refine WL.move rfl rfl rfl ?_
  first | refine WL.nilc rfl rfl rfl ?_
  refine WL.field rfl rfl rfl (g67_2 q _) ?_
  refine WL.load rfl rfl rfl (ldR h.bl rfl) ?_
  first | refine WL.move rfl rfl rfl ?_
  refine WL.sliceH rfl rfl rfl rfl (p1 _) ?_
  refine WL.app rfl rfl rfl rfl r1 ?_
  first | refine WL.assign rfl rfl rfl ?_
  refine WL.done ?_
  refine EW.on ?_
  refine EW.seq ?_
  refine EW.region ?_
  first | refine WL.move rfl rfl rfl ?_
  first | refine WL.move rfl rfl rfl ?_
  first | refine WL.nilc rfl rfl rfl ?_
  refine WL.field rfl rfl rfl (g67_2 q _) ?_
  refine WL.load rfl rfl rfl (ldR h1.bl rfl) ?_
  first | refine WL.move rfl rfl rfl ?_
  refine WL.bin rfl rfl rfl rfl (int_add (c := ((i + 1 : Nat) : Int)) (by rw [IntKind.wrap_i64]; omega) _ _ _) ?_
  refine WL.sliceL rfl rfl rfl rfl (p2 _) ?_
  refine WL.app rfl rfl rfl rfl r2 ?_
  first | refine WL.assign rfl rfl rfl ?_
  refine WL.done ?_
  refine EW.on ?_
  refine EW.region ?_
  first | refine WL.move rfl rfl rfl ?_
  first | refine WL.move rfl rfl rfl ?_
  first | refine WL.nilc rfl rfl rfl ?_
  refine WL.field rfl rfl rfl (g67_2 q _) ?_
  refine WL.store rfl rfl rfl r3 ?_
  refine WL.done ?_
  exact EW.falls Try.results37 ⟨rfl, vb, hRn, hvb, (Fx.of_below l2).and f3⟩
end Go.Proofs.Ytplfelfmkgjijaa
