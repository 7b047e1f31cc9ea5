import Derived.Test.YtnakeieeopbeiaaGz
set_option linter.unusedVariables false
set_option linter.unusedSimpArgs false
namespace Go.Proofs.Ytnakeieeopbeiaa
open Go.RowKit Prm

section
variable {P : Program} {n : Nat} {ops : Array Oper} {S : Nat → World → Prop} {K : List (Nat × Value) → (World → Prop) → Prop} {i lv : Nat} {ty : TypeId} {ps : String} {af : Array Edge} {gd : Option (Nat × Bool)} {r : List (Oper × Bool × Nat)} {e : List (Nat × Value)} {C : World → Prop}
theorem ZE.pick {c x y : Operand} {b : Bool} {v : Value} (hw : wantE ops e ⟨some i, .pick c x y, ty, ps, af, gd⟩ = some true) (hi : decide (i < n) = true) (hc : evE e c = some (.bool b)) (hx : evE e (if b then x else y) = some v) (hC : ∀ w, C w → S lv w) (k : wpZE P n ops S K r ((i, v) :: e) C) : wpZE P n ops S K ((⟨some i, .pick c x y, ty, ps, af, gd⟩, false, lv) :: r) e C :=
  ZE.val hw hi hC (fun a ha W hW => by cases b <;> simp [execOp, ha.ev hc, ← ha.ev hx, asBool]) k
theorem ZE.build1 {t : TypeId} {m : Nat} {x : Operand} {u v : Value} (hw : wantE ops e ⟨some i, .build t #[(m, x)], ty, ps, af, gd⟩ = some true) (hi : decide (i < n) = true) (hx : evE e x = some u) (hC : ∀ w, C w → S lv w) (hr : ∀ w, (Instr.build t #[(m, u)]).run P w = .ok v w) (k : wpZE P n ops S K r ((i, v) :: e) C) : wpZE P n ops S K ((⟨some i, .build t #[(m, x)], ty, ps, af, gd⟩, false, lv) :: r) e C :=
  ZE.val hw hi hC (fun a ha W hW => by
    simp only [execOp, List.map_toArray, List.map_cons, List.map_nil, ha.ev hx, Sem.run_bind, hr W, Result.andThen_ok, Sem.run_pure]) k
end
/-- The slice value sv holds the script. -/
structure Script (w : World) (sv : Value) (os : List Opf) : Prop where
  len : ∀ W ty, (Builtin.len_ #[45] ty #[sv]).run Try.prog W = .ok (.int .i64 os.length) W
  item : ∀ (i : Nat) (o : Opf), os[i]? = some o → ∃ ad, (∀ W, (Instr.indexAt 45 sv (.int .i64 (i : Int))).run Try.prog W = .ok (.pointer (some ad)) W) ∧ At w ad (opF o) ∧ o.k.length = 32
theorem Script.below {w w' : World} {sv : Value} {os : List Opf} (h : Script w sv os) (hb : Below w.heap.size w w') : Script w' sv os :=
  ⟨h.len, fun i o hi => by
    obtain ⟨ad, h1, h2, h3⟩ := h.item i o hi
    exact ⟨ad, h1, h2.below hb, h3⟩⟩
theorem enter23 (args : Array Value) (W : World) : (callFunc 23 args).run Try.prog W = .ok (.enter 23 args) W := run_enter Try.func23 (by kernel_rfl) (by kernel_rfl) args W
theorem enter24 (args : Array Value) (W : World) : (callFunc 24 args).run Try.prog W = .ok (.enter 24 args) W := run_enter Try.func24 (by kernel_rfl) (by kernel_rfl) args W
def p0 : List L5 := [zeroE, zeroE, zeroE, zeroE]
def r0 : List (List Nat) := [z16, z16, z16, z16]
theorem build52 (W : World) : (Instr.build 52 #[]).run Try.prog W = .ok (.agg (tbC p0 r0 0).toArray) W := by kernel_rfl
theorem z16_nm : Nm z16 := by
  have h := numD_nm 0
  rw [show numD 0 = z16 from rfl] at h
  exact h
theorem r0_nm (i : Nat) (x : List Nat) (h : r0[i]? = some x) : Nm x := by
  have : x ∈ r0 := List.mem_of_getElem? h
  have e : x = z16 := by simpa [r0] using this
  rw [e]; exact z16_nm
theorem agr0 : Agr p0 r0 := by
  have hz : z16 = numD (zeroE.val % PP) := by rfl
  refine ⟨fun i x h => ?_, fun i x h => ?_⟩
  · have : x ∈ p0 := List.mem_of_getElem? h
    have e : x = zeroE := by simpa [p0] using this
    rw [e]; exact zero_ok
  · have : x ∈ p0 := List.mem_of_getElem? h
    have e : x = zeroE := by simpa [p0] using this
    have hi : i < 4 := by simpa [p0] using (List.getElem?_eq_some_iff.1 h).1
    rw [e, ← hz]
    rcases i with _ | _ | _ | _ | i
    · rfl
    · rfl
    · rfl
    · rfl
    · omega
theorem eql23 (L M : List UInt8) (h1 : L.length = 32) (h2 : M.length = 32) (q : Bool) (hq : decide (L = M) = q) (W : World) (x y : Operand) : (do eqGuard .eql 23 x y (.agg (L.map byt).toArray) (.agg (M.map byt).toArray); binOp .eql 23 (.agg (L.map byt).toArray) (.agg (M.map byt).toArray) : Sem Value).run Try.prog W = .ok (.bool q) W := by
  have he := fun W => eq23 L M h1 h2 W
  rw [hq] at he
  have hg := guard23
  go_simp
def k7 : List UInt8 := 7 :: List.replicate 31 0
theorem bld23z (W : World) : (Instr.build 23 #[(0, .int .u8 7)]).run Try.prog W = .ok (.agg (k7.map byt).toArray) W := by kernel_rfl
theorem seven (W : World) : Calls Try.prog 14 #[.int .u32 7] W fun e w' => e = .returned (small 7#32).v ∧ Below W.heap.size W w' := small_any 7#32 W
theorem tell7 : tellE (small 7#32) = k7 := by
  rw [tell_is _ (small_ok _), small_val]; decide +kernel
def exE (sv : Value) (g t : Nat) : List (Nat × Value) := [(0, sv), (3, .pointer (some ⟨g, 0, none⟩)), (4, .int .i64 (t : Int))]
def ExR (w : World) (sv : Value) (os : List Opf) (g t : Nat) (w' : World) : Prop := t ≤ 60 ∧ t ≤ os.length ∧ Below w.heap.size w w' ∧ ∃ p r s, Tb w' g p r s ∧ Agr p r ∧ 0 ≤ s ∧ s ≤ (t : Int)
set_option maxRecDepth 100000 in
set_option maxHeartbeats 1000000 in
theorem exact_law (sv : Value) (os : List Opf) (w : World) (hos : Script w sv os) : Calls Try.prog 8 #[sv] w fun e w' => e = .returned (.bool true) ∧ Below w.heap.size w w' := by
  obtain ⟨g, hg⟩ : ∃ g, w.heap.size = g := ⟨_, rfl⟩
  have r1 := run_boxR (P := Try.prog) 52 (tbC p0 r0 0) w g hg
  have b1 : Blk (w.alloc (.cells (tbC p0 r0 0).toArray 52)) g (tbC p0 r0 0) 52 := hg ▸ Blk.new _ _ _
  have e1 : Below w.heap.size w (w.alloc (.cells (tbC p0 r0 0).toArray 52)) := below_new _ _
  obtain ⟨w1, hw1⟩ : ∃ w1, w.alloc (.cells (tbC p0 r0 0).toArray 52) = w1 := ⟨_, rfl⟩
  rw [hw1] at r1 b1 e1
  have hT1 : Tb w1 g p0 r0 0 := ⟨b1, rfl, rfl, r0_nm⟩
  refine calls_of_args [sv] Try.func8 rfl 64 Try.ntmps8 (by show 1 ≤ 64; decide) ?_
  refine EW.seq ?_
  refine EW.region ?_
  first | refine WL.assign rfl rfl rfl ?_
  refine WL.done ?_
  refine EW.on ?_
  refine EW.seq ?_
  refine EW.region ?_
  refine WL.build0 rfl rfl (build52 _) ?_
  refine WL.box rfl rfl rfl r1 ?_
  first | refine WL.assign rfl rfl rfl ?_
  refine WL.done ?_
  refine EW.on ?_
  refine EW.seq ?_
  refine EW.seq ?_
  refine EW.region ?_
  first | refine WL.assign rfl rfl rfl ?_
  refine WL.done ?_
  refine EW.on ?_
  refine EW.block ?_
  refine EW.loop (exE sv g) (ExR w sv os g) (fun t => 60 - t) 0 [0, 3, 4] rfl ⟨by decide, Nat.zero_le _, e1, p0, r0, 0, hT1, agr0, by decide, by decide⟩ ?_
  rintro t wr ⟨ht, htl, hbe, p, r, s, hT, hA, hs0, hst⟩
  have hgs : g < wr.heap.size := hT.bl.lt
  show EW _ _ _ _ [(0, sv), (3, .pointer (some ⟨g, 0, none⟩)), (4, .int .i64 (t : Int))] _
  by_cases h1 : t < os.length
  · have z1 : (t : Int) < (os.length : Int) := by omega
    by_cases h2 : t < 60
    · have z2 : (t : Int) < 60 := by omega
      have tn : IntKind.i64.wrap ((t : Int) + 1) = ((t + 1 : Nat) : Int) := by rw [IntKind.wrap_i64]; omega
      obtain ⟨o, ho⟩ : ∃ o, os[t]? = some o := ⟨_, List.getElem?_eq_getElem h1⟩
      obtain ⟨ad, i1, i2, hk⟩ := (hos.below hbe).item t o ho
      refine EW.seq ?_
      refine EW.seq ?_
      refine EW.region ?_
      first | refine WL.move rfl rfl rfl ?_
      first | refine WL.move rfl rfl rfl ?_
      refine WL.len rfl rfl rfl (hos.len _ _) ?_
      refine WL.bin rfl rfl rfl rfl (int_lt_t z1 _ _ _) ?_
      first | refine WL.move rfl rfl rfl ?_
      first | refine WL.move rfl rfl rfl ?_ | refine WL.skip _ rfl rfl rfl ?_
      refine WL.bin rfl rfl rfl rfl (int_lt_t z2 _ _ _) ?_
      first | refine WL.pick rfl rfl rfl rfl ?_
      refine WL.done ?_
      refine EW.on ?_
      refine EW.cond_t rfl ?_
      refine EW.skip ?_
      refine EW.on ?_
      refine EW.seq ?_
      refine EW.block ?_
      refine EW.seq ?_
      refine EW.region ?_
      first | refine WL.move rfl rfl rfl ?_
      first | refine WL.move rfl rfl rfl ?_
      first | refine WL.move rfl rfl rfl ?_
      refine WL.index rfl rfl rfl rfl (i1 _) ?_
      first | refine WL.load rfl rfl rfl (run_loadA i2 Try.underlying55 rfl (by rw [opF_len o hk]; rfl)) ?_
      refine WL.call [.pointer (some ⟨g, 0, none⟩), .agg (opF o).toArray] enter23 rfl rfl rfl (plays_any g p r s o hk _ hT hA hs0 (by omega)) ?_
      rintro _ w3 ⟨rfl, p', r', s', hc, hA', hs1, hs2⟩
      refine ⟨_, rfl, ?_⟩
      first | refine WL.assign rfl rfl rfl ?_
      refine WL.done ?_
      refine EW.on ?_
      refine EW.seq ?_
      refine EW.region ?_
      first | refine WL.move rfl rfl rfl ?_
      first | refine WL.un rfl rfl rfl (not_t _ _) ?_
      first | refine WL.move rfl rfl rfl ?_
      first | refine WL.move rfl rfl rfl ?_ | refine WL.skip _ rfl rfl rfl ?_
      refine WL.call [.pointer (some ⟨g, 0, none⟩)] enter24 rfl rfl rfl (same_law g p' r' s' _ hc.1 hA') ?_
      rintro _ w4 ⟨rfl, h4⟩
      refine ⟨_, rfl, ?_⟩
      first | refine WL.un rfl rfl rfl (not_t _ _) ?_ | refine WL.skip _ rfl rfl rfl ?_
      first | refine WL.pick rfl rfl rfl rfl ?_
      refine WL.done ?_
      refine EW.on ?_
      refine EW.cond_f rfl ?_
      refine EW.skip ?_
      refine pn_block ?_
      refine EW.on ?_
      refine EW.region ?_
      first | refine WL.move rfl rfl rfl ?_
      refine WL.bin rfl rfl rfl rfl (int_add tn _ _ _) ?_
      first | refine WL.assign rfl rfl rfl ?_
      refine WL.done ?_
      have b3 : Below w.heap.size w w3 := hbe.trans (hc.2.below (fun k hk' e => by omega) hbe.size)
      refine EW.again (E := exE sv g) (R := ExR w sv os g) (m := fun t => 60 - t) (x := t) (t + 1) [0, 3, 4] rfl ⟨by omega, by omega, b3.trans (h4.mono b3.size), p', r', s', hc.1.on h4, hA', by omega, by omega⟩ (by show 60 - (t + 1) < 60 - t; omega)
    · have z2 : ¬ (t : Int) < 60 := by omega
      refine EW.seq ?_
      refine EW.seq ?_
      refine EW.region ?_
      first | refine WL.move rfl rfl rfl ?_
      first | refine WL.move rfl rfl rfl ?_
      refine WL.len rfl rfl rfl (hos.len _ _) ?_
      refine WL.bin rfl rfl rfl rfl (int_lt_t z1 _ _ _) ?_
      first | refine WL.move rfl rfl rfl ?_
      first | refine WL.move rfl rfl rfl ?_ | refine WL.skip _ rfl rfl rfl ?_
      refine WL.bin rfl rfl rfl rfl (int_lt_f z2 _ _ _) ?_
      first | refine WL.pick rfl rfl rfl rfl ?_
      refine WL.done ?_
      refine EW.on ?_
      refine EW.cond_f rfl ?_
      refine EW.exit ?_
      repeat refine px_then ?_
      refine px_block ?_
      refine EW.on ?_
      refine EW.seq ?_
      obtain ⟨x, px⟩ : ∃ x, p[0]? = some x := ⟨_, List.getElem?_eq_getElem (by rw [hT.lp]; decide)⟩
      obtain ⟨y, py⟩ : ∃ y, p[1]? = some y := ⟨_, List.getElem?_eq_getElem (by rw [hT.lp]; decide)⟩
      have xo := hA.ok _ _ px
      have yo := hA.ok _ _ py
      have rx : r[0]? = some (nx x) := hA.eq _ _ px
      have ry : r[1]? = some (nx y) := hA.eq _ _ py
      refine EW.ordB [(0, false, 0), (1, true, 1), (2, false, 0), (3, false, 0), (4, false, 0), (5, false, 0), (6, false, 0), (7, false, 1), (8, false, 0), (9, false, 0), (10, false, 0), (11, false, 0), (12, false, 1), (14, false, 0), (15, false, 0), (16, false, 0), (17, false, 0), (18, false, 1), (19, false, 0), (20, false, 0), (21, false, 0), (22, false, 0), (23, false, 1), (24, false, 0), (13, true, 1), (25, false, 0), (26, false, 0), (27, false, 0), (30, false, 0), (28, true, 1), (29, true, 1), (31, false, 0), (32, false, 0), (33, false, 0)] (by kernel_rfl) rfl (by kernel_rfl) ?_
      simp only [opsZ, List.getD_cons_zero, List.getD_cons_succ]
      refine ZE.move rfl rfl rfl sb0 ?_
      refine ZE.callB [.pointer (some ⟨g, 0, none⟩)] enter24 rfl rfl rfl sb1 (fun W hW => same_law g p r s W (hT.on hW) hA) ?_
      refine ZE.move rfl rfl rfl sb0 ?_
      refine ZE.move rfl rfl rfl sb0 ?_
      refine ZE.nilc rfl rfl rfl sb0 ?_
      refine ZE.field rfl rfl rfl sb0 (fun W => tfld0 g W) ?_
      refine ZE.index rfl rfl rfl rfl sb0 (fun W => idx47 g 0 (by decide) W) ?_
      first | refine ZE.load rfl rfl rfl sb1 (fun W hW => run_loadA ((hT.on (sb_of hW)).elem px) Try.underlying27 rfl (cs_info _)) ?_ | refine ZE.load rfl rfl rfl sb1 (fun W hW => run_loadA ((hT.on (sb_of hW)).elem py) Try.underlying27 rfl (cs_info _)) ?_
      refine ZE.move rfl rfl rfl sb0 ?_
      refine ZE.nilc rfl rfl rfl sb0 ?_
      refine ZE.field rfl rfl rfl sb0 (fun W => tfld0 g W) ?_
      refine ZE.index rfl rfl rfl rfl sb0 (fun W => idx47 g 1 (by decide) W) ?_
      first | refine ZE.load rfl rfl rfl sb1 (fun W hW => run_loadA ((hT.on (sb_of hW)).elem px) Try.underlying27 rfl (cs_info _)) ?_ | refine ZE.load rfl rfl rfl sb1 (fun W hW => run_loadA ((hT.on (sb_of hW)).elem py) Try.underlying27 rfl (cs_info _)) ?_
      refine ZE.move rfl rfl rfl sb0 ?_
      refine ZE.nilc rfl rfl rfl sb0 ?_
      refine ZE.field rfl rfl rfl sb0 (fun W => tfld1 g W) ?_
      refine ZE.index rfl rfl rfl rfl sb0 (fun W => idx50 g 0 (by decide) W) ?_
      first | refine ZE.load rfl rfl rfl sb1 (fun W hW => run_loadA ((hT.on (sb_of hW)).numb rx) Try.underlying49 rfl (info49 (nx_nm _).ln)) ?_ | refine ZE.load rfl rfl rfl sb1 (fun W hW => run_loadA ((hT.on (sb_of hW)).numb ry) Try.underlying49 rfl (info49 (nx_nm _).ln)) ?_
      refine ZE.move rfl rfl rfl sb0 ?_
      refine ZE.nilc rfl rfl rfl sb0 ?_
      refine ZE.field rfl rfl rfl sb0 (fun W => tfld1 g W) ?_
      refine ZE.index rfl rfl rfl rfl sb0 (fun W => idx50 g 1 (by decide) W) ?_
      first | refine ZE.load rfl rfl rfl sb1 (fun W hW => run_loadA ((hT.on (sb_of hW)).numb rx) Try.underlying49 rfl (info49 (nx_nm _).ln)) ?_ | refine ZE.load rfl rfl rfl sb1 (fun W hW => run_loadA ((hT.on (sb_of hW)).numb ry) Try.underlying49 rfl (info49 (nx_nm _).ln)) ?_
      refine ZE.bin rfl rfl rfl rfl sb0 (fun W => eql49 _ _ (nx_nm x).ln (nx_nm y).ln (eqE x y) (nx_same xo yo) W _ _) ?_
      refine ZE.callB [x.v, y.v] enter12 rfl rfl rfl sb1 (fun W _ => equalE x y W) ?_
      refine ZE.bin rfl rfl rfl rfl sb0 (fun W => bool_eql _ _ rfl W _ _) ?_
      refine ZE.pick rfl rfl rfl rfl sb0 ?_
      refine ZE.move rfl rfl rfl sb0 ?_
      refine ZE.build1 rfl rfl rfl sb0 (fun W => bld23z W) ?_
      refine ZE.callB [.int .u32 7] enter14 rfl rfl rfl sb1 (fun W _ => seven W) ?_
      refine ZE.callB [(small 7#32).v] enter10 rfl rfl rfl sb1 (fun W _ => bytes_any _ W) ?_
      refine ZE.bin rfl rfl rfl rfl sb0 (fun W => eql23 _ _ (tell_length _) rfl true (decide_eq_true tell7) W _ _) ?_
      refine ZE.pick rfl rfl rfl rfl sb0 ?_
      refine ZE.assign rfl rfl rfl sb0 ?_
      intro w9 h9
      refine EW.on ?_
      refine EW.ret ?_
      repeat (first | refine pr_then ?_ | refine pr_block ?_)
      exact EW.returns Try.results8 rfl ⟨rfl, hbe.trans (h9.mono hbe.size)⟩
  · have z1 : ¬ (t : Int) < (os.length : Int) := by omega
    refine EW.seq ?_
    refine EW.seq ?_
    refine EW.region ?_
    first | refine WL.move rfl rfl rfl ?_
    first | refine WL.move rfl rfl rfl ?_
    refine WL.len rfl rfl rfl (hos.len _ _) ?_
    refine WL.bin rfl rfl rfl rfl (int_lt_f z1 _ _ _) ?_
    first | refine WL.move rfl rfl rfl ?_
    refine WL.skip _ rfl rfl rfl ?_
    refine WL.skip _ rfl rfl rfl ?_
    first | refine WL.pick rfl rfl rfl rfl ?_
    refine WL.done ?_
    refine EW.on ?_
    refine EW.cond_f rfl ?_
    refine EW.exit ?_
    repeat refine px_then ?_
    refine px_block ?_
    refine EW.on ?_
    refine EW.seq ?_
    obtain ⟨x, px⟩ : ∃ x, p[0]? = some x := ⟨_, List.getElem?_eq_getElem (by rw [hT.lp]; decide)⟩
    obtain ⟨y, py⟩ : ∃ y, p[1]? = some y := ⟨_, List.getElem?_eq_getElem (by rw [hT.lp]; decide)⟩
    have xo := hA.ok _ _ px
    have yo := hA.ok _ _ py
    have rx : r[0]? = some (nx x) := hA.eq _ _ px
    have ry : r[1]? = some (nx y) := hA.eq _ _ py
    refine EW.ordB [(0, false, 0), (1, true, 1), (2, false, 0), (3, false, 0), (4, false, 0), (5, false, 0), (6, false, 0), (7, false, 1), (8, false, 0), (9, false, 0), (10, false, 0), (11, false, 0), (12, false, 1), (14, false, 0), (15, false, 0), (16, false, 0), (17, false, 0), (18, false, 1), (19, false, 0), (20, false, 0), (21, false, 0), (22, false, 0), (23, false, 1), (24, false, 0), (13, true, 1), (25, false, 0), (26, false, 0), (27, false, 0), (30, false, 0), (28, true, 1), (29, true, 1), (31, false, 0), (32, false, 0), (33, false, 0)] (by kernel_rfl) rfl (by kernel_rfl) ?_
    simp only [opsZ, List.getD_cons_zero, List.getD_cons_succ]
    refine ZE.move rfl rfl rfl sb0 ?_
    refine ZE.callB [.pointer (some ⟨g, 0, none⟩)] enter24 rfl rfl rfl sb1 (fun W hW => same_law g p r s W (hT.on hW) hA) ?_
    refine ZE.move rfl rfl rfl sb0 ?_
    refine ZE.move rfl rfl rfl sb0 ?_
    refine ZE.nilc rfl rfl rfl sb0 ?_
    refine ZE.field rfl rfl rfl sb0 (fun W => tfld0 g W) ?_
    refine ZE.index rfl rfl rfl rfl sb0 (fun W => idx47 g 0 (by decide) W) ?_
    first | refine ZE.load rfl rfl rfl sb1 (fun W hW => run_loadA ((hT.on (sb_of hW)).elem px) Try.underlying27 rfl (cs_info _)) ?_ | refine ZE.load rfl rfl rfl sb1 (fun W hW => run_loadA ((hT.on (sb_of hW)).elem py) Try.underlying27 rfl (cs_info _)) ?_
    refine ZE.move rfl rfl rfl sb0 ?_
    refine ZE.nilc rfl rfl rfl sb0 ?_
    refine ZE.field rfl rfl rfl sb0 (fun W => tfld0 g W) ?_
    refine ZE.index rfl rfl rfl rfl sb0 (fun W => idx47 g 1 (by decide) W) ?_
    first | refine ZE.load rfl rfl rfl sb1 (fun W hW => run_loadA ((hT.on (sb_of hW)).elem px) Try.underlying27 rfl (cs_info _)) ?_ | refine ZE.load rfl rfl rfl sb1 (fun W hW => run_loadA ((hT.on (sb_of hW)).elem py) Try.underlying27 rfl (cs_info _)) ?_
    refine ZE.move rfl rfl rfl sb0 ?_
    refine ZE.nilc rfl rfl rfl sb0 ?_
    refine ZE.field rfl rfl rfl sb0 (fun W => tfld1 g W) ?_
    refine ZE.index rfl rfl rfl rfl sb0 (fun W => idx50 g 0 (by decide) W) ?_
    first | refine ZE.load rfl rfl rfl sb1 (fun W hW => run_loadA ((hT.on (sb_of hW)).numb rx) Try.underlying49 rfl (info49 (nx_nm _).ln)) ?_ | refine ZE.load rfl rfl rfl sb1 (fun W hW => run_loadA ((hT.on (sb_of hW)).numb ry) Try.underlying49 rfl (info49 (nx_nm _).ln)) ?_
    refine ZE.move rfl rfl rfl sb0 ?_
    refine ZE.nilc rfl rfl rfl sb0 ?_
    refine ZE.field rfl rfl rfl sb0 (fun W => tfld1 g W) ?_
    refine ZE.index rfl rfl rfl rfl sb0 (fun W => idx50 g 1 (by decide) W) ?_
    first | refine ZE.load rfl rfl rfl sb1 (fun W hW => run_loadA ((hT.on (sb_of hW)).numb rx) Try.underlying49 rfl (info49 (nx_nm _).ln)) ?_ | refine ZE.load rfl rfl rfl sb1 (fun W hW => run_loadA ((hT.on (sb_of hW)).numb ry) Try.underlying49 rfl (info49 (nx_nm _).ln)) ?_
    refine ZE.bin rfl rfl rfl rfl sb0 (fun W => eql49 _ _ (nx_nm x).ln (nx_nm y).ln (eqE x y) (nx_same xo yo) W _ _) ?_
    refine ZE.callB [x.v, y.v] enter12 rfl rfl rfl sb1 (fun W _ => equalE x y W) ?_
    refine ZE.bin rfl rfl rfl rfl sb0 (fun W => bool_eql _ _ rfl W _ _) ?_
    refine ZE.pick rfl rfl rfl rfl sb0 ?_
    refine ZE.move rfl rfl rfl sb0 ?_
    refine ZE.build1 rfl rfl rfl sb0 (fun W => bld23z W) ?_
    refine ZE.callB [.int .u32 7] enter14 rfl rfl rfl sb1 (fun W _ => seven W) ?_
    refine ZE.callB [(small 7#32).v] enter10 rfl rfl rfl sb1 (fun W _ => bytes_any _ W) ?_
    refine ZE.bin rfl rfl rfl rfl sb0 (fun W => eql23 _ _ (tell_length _) rfl true (decide_eq_true tell7) W _ _) ?_
    refine ZE.pick rfl rfl rfl rfl sb0 ?_
    refine ZE.assign rfl rfl rfl sb0 ?_
    intro w9 h9
    refine EW.on ?_
    refine EW.ret ?_
    repeat (first | refine pr_then ?_ | refine pr_block ?_)
    exact EW.returns Try.results8 rfl ⟨rfl, hbe.trans (h9.mono hbe.size)⟩
end Go.Proofs.Ytnakeieeopbeiaa
