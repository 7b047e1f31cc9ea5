import Derived.Test.YtacimelcmkhhlaaKi
set_option linter.unusedVariables false
set_option linter.unusedSimpArgs false
namespace Go.Proofs.Ytacimelcmkhhlaa
open Go.RowKit

theorem results_twoN {P : Program} {fn : Func} {p q : Tmp} {ty : TypeId} (h : fn.results = #[.cell p ty, .tmp q]) (tmps : Array Value) (w : World) (g : Nat) (t : TypeId) (cs : Array Value) (fr : Nat × Nat) (d : TypeDesc) (v : Value)
    (hp : tmps.getD p undef = .pointer (some ⟨g, 0, none⟩)) (hq : tmps.getD q undef = v) (hg : w.heap[g]? = some (.cells cs t fr))
    (hu : P.underlying ty = some d) (hd : (match d with | .struct _ | .array _ _ => true | _ => false) = true) (hi : (P.info? ty).map (·.size) = some cs.size) :
    (results fn tmps).run P w = .ok (.tuple #[.agg cs, v]) w := by
  have hp' : tmps[p]?.getD undef = .pointer (some ⟨g, 0, none⟩) := by simpa using hp
  have hq' : tmps[q]?.getD undef = v := by simpa using hq
  simp [results, h, hp', hq', asAddr, run_loadVar_row w g t ty cs fr d hg hu hd hi]
theorem EW.returnsCT {P : Program} {m : Nat} {e : List (Nat × Value)} {w : World} {fn : Func} {R : Ending → World → Prop} {t u : Nat} {ty ty' : TypeId} {g : Nat} {cs : List Value} {v : Value} {d : TypeDesc} (hres : fn.results = #[.cell t ty, .tmp u]) (hv : e.lookup t = some (.pointer (some ⟨g, 0, none⟩))) (hv' : e.lookup u = some v) (hg : Blk w g cs ty') (hu : P.underlying ty = some d) (hd : (match d with | .struct _ | .array _ _ => true | _ => false) = true) (hi : (P.info? ty).map (·.size) = some cs.length) (h : R (.returned (.tuple #[.agg cs.toArray, v])) w) : ∀ a, Env ⟨m, []⟩ a e → bodyPost P fn R .ret a w := fun a ha =>
  bodyPost_ret (v := .tuple #[.agg cs.toArray, v]) (results_twoN hres a.tmps w g ty' cs.toArray (0, 0) d v (ha.kn t _ hv) (ha.kn u _ hv') hg hu hd (by simpa using hi)) ha.df h
section
variable {P : Program} {n : Fm} {ops : Array Oper} {Q : Exit → Act → World → Prop} {i : Nat} {ty : TypeId} {ps : String} {af : Array Edge} {gd : Option (Nat × Bool)} {r : List Oper} {e : List (Nat × Value)} {w : World}
theorem WL.sliceL {t : TypeId} {x lo : Operand} {u ul v : Value} (hw : wantE ops e ⟨some i, .slice t x (some lo) none none, ty, ps, af, gd⟩ = some true) (hi : decide (i < n.k) = true) (hx : evE e x = some u) (hl : evE e lo = some ul) (hr : (Instr.sliceAt t u (some ul) none none).run P w = .ok v w) (k : WL P n ops Q r ((i, v) :: e) w) : WL P n ops Q (⟨some i, .slice t x (some lo) none none, ty, ps, af, gd⟩ :: r) e w :=
  WL.op i v hw rfl hi (fun a ha => by simp [execOp, ha.ev hx, ha.ev hl, hr, Result.andThen]) k
end
theorem bld115 (a : Value) (ha : ∃ ao n c, a = .slice ao n c) (W : World) : (Instr.build 115 [(0, a)].toArray).run Try.prog W = .ok (.agg [a, .bool false].toArray) W := by
  obtain ⟨_, _, _, rfl⟩ := ha
  kernel_rfl
theorem str_ne_d (a b : List UInt8) (W : World) (x y : Operand) : (do eqGuard .neq 9 x y (.string ⟨a.toArray⟩) (.string ⟨b.toArray⟩); binOp .neq 9 (.string ⟨a.toArray⟩) (.string ⟨b.toArray⟩) : Sem Value).run Try.prog W = .ok (.bool (decide (¬ a = b))) W := by
  go_simp
  rw [Bool.eq_iff_iff]; simp
theorem ix23 (q o m : Nat) (h : m < 16) (W : World) : (Instr.indexAt 23 (.pointer (some ⟨q, o, none⟩)) (.int .i64 (m : Int))).run Try.prog W = .ok (.pointer (some ⟨q, o + m, none⟩)) W := by
  have hm : (m : Int) < 16 := by omega
  go_simp
  try simp
  try rw [Addr.add_mid]
theorem Sg.stI_sid {w : World} {q : Nat} {s : Sg} {t : TypeId} {i : Nat} (hb : Blk w q s.cs t) (k : s.ok) (hi : i < 16) (x : UInt8) : ∃ w', (Instr.storeAt 5 (.pointer (some ⟨q, 0 + i, none⟩)) (byt x)).run Try.prog w = .ok () w' ∧ Blk w' q (Sg.cs { s with sid := s.sid.set i x }) t ∧ Fx (fun k => k = q) w w' := by
  obtain ⟨w', h1, h2, h3⟩ := hb.stI Sg.c_sid (Sg.l_sid k) (by rw [k.sid]; exact hi) x
  exact ⟨w', h1, by rw [Sg.c_sid]; exact h2, h3⟩
theorem bne_t {v : UInt8} (h : ¬ v.toNat = 1) (W : World) (x y : Operand) : (do eqGuard .neq 5 x y (byt v) (.int .u8 1); binOp .neq 5 (byt v) (.int .u8 1) : Sem Value).run Try.prog W = .ok (.bool true) W := by
  have h2 : ¬ (v.toNat : Int) = 1 := by omega
  unfold byt
  go_simp
  try omega
theorem bne_f {v : UInt8} (h : ¬ (¬ v.toNat = 1)) (W : World) (x y : Operand) : (do eqGuard .neq 5 x y (byt v) (.int .u8 1); binOp .neq 5 (byt v) (.int .u8 1) : Sem Value).run Try.prog W = .ok (.bool false) W := by
  have h2 : ¬ (¬ (v.toNat : Int) = 1) := by omega
  unfold byt
  go_simp
  try omega
theorem beq_t {v : UInt8} (h : v.toNat = 1) (W : World) (x y : Operand) : (do eqGuard .eql 5 x y (byt v) (.int .u8 1); binOp .eql 5 (byt v) (.int .u8 1) : Sem Value).run Try.prog W = .ok (.bool true) W := by
  have h2 : (v.toNat : Int) = 1 := by omega
  unfold byt
  go_simp
  try omega
theorem beq_f {v : UInt8} (h : ¬ (v.toNat = 1)) (W : World) (x y : Operand) : (do eqGuard .eql 5 x y (byt v) (.int .u8 1); binOp .eql 5 (byt v) (.int .u8 1) : Sem Value).run Try.prog W = .ok (.bool false) W := by
  have h2 : ¬ ((v.toNat : Int) = 1) := by omega
  unfold byt
  go_simp
  try omega
theorem bgt_t {v : UInt8} (h : 1 < v.toNat) (W : World) (x y : Operand) : (do eqGuard .gtr 5 x y (byt v) (.int .u8 1); binOp .gtr 5 (byt v) (.int .u8 1) : Sem Value).run Try.prog W = .ok (.bool true) W := by
  have h2 : 1 < (v.toNat : Int) := by omega
  unfold byt
  go_simp
  try omega
theorem bgt_f {v : UInt8} (h : ¬ (1 < v.toNat)) (W : World) (x y : Operand) : (do eqGuard .gtr 5 x y (byt v) (.int .u8 1); binOp .gtr 5 (byt v) (.int .u8 1) : Sem Value).run Try.prog W = .ok (.bool false) W := by
  have h2 : ¬ (1 < (v.toNat : Int)) := by omega
  unfold byt
  go_simp
  try omega
theorem cut0 {c : List UInt8} {u : UInt8} (h : c[0]? = some u) : numB (cutB c 0 1) = u.toNat := by
  rcases c with _ | ⟨a, r⟩
  · simp at h
  · simp at h
    subst h
    simp [cutB, numB]
theorem min_stay {t : Nat} (h : ¬ t < 16) : min (t + 1) 16 = min t 16 := by omega
def s1C (c : List UInt8) (t : Nat) : Sg := ⟨ouB (tkC c 1 16) 16 (min t 16), z32, z32, z32, z32, z32, z32, 0, 0, 0, 0, 0, 0, Hl.z, ouB (tkC c 17 64) 64 t⟩
theorem s1C_ok (c : List UInt8) {t : Nat} (h : t ≤ 64) : (s1C c t).ok := ⟨ouB_len (by omega), rfl, rfl, rfl, rfl, rfl, rfl, by show 0 < _; decide, by show 0 < _; decide, by show 0 < _; decide, by show 0 < _; decide, by show 0 < _; decide, by show 0 < _; decide, Hl.z_ok, ouB_len h⟩
def d1E (vb : Value) (qr q p : Nat) (v6 v7 : Value) (t : Nat) : List (Nat × Value) := [(0, vb), (2, .pointer (some ⟨qr, 0, none⟩)), (4, .pointer (some ⟨q, 0, none⟩)), (5, .pointer (some ⟨p, 0, none⟩)), (6, v6), (7, v7), (8, .int .i64 (t : Int))]
def D1I (c : List UInt8) (p : Nat) (w7 : World) (t : Nat) (W : World) : Prop := t ≤ 64 ∧ Blk W p (s1C c t).cs 33 ∧ Fx (fun k => k = p) w7 W
def d2E (vb : Value) (qr q p : Nat) (t : Nat) : List (Nat × Value) := [(0, vb), (2, .pointer (some ⟨qr, 0, none⟩)), (4, .pointer (some ⟨q, 0, none⟩)), (5, .pointer (some ⟨p, 0, none⟩)), (10, .int .i64 (t : Int))]
def D2I (s : Sg) (X : List UInt8) (p : Nat) (w7 : World) (t : Nat) (W : World) : Prop := t ≤ 32 ∧ Blk W p (Sg.cs { s with hl := { s.hl with id := ouB X 32 t } }) 33 ∧ Fx (fun k => k = p) w7 W
set_option maxRecDepth 100000 in
set_option maxHeartbeats 4000000 in
theorem rdecode_any (vb : Value) (c : List UInt8) (w : World) (hb : Has w vb c) (hl : c.length ≤ 140737488355328) : Calls Try.prog 50 #[vb] w fun e w' => e = .returned (.tuple #[(decS c).v, .int .i64 (decE c)]) ∧ Below w.heap.size w w' := by
  obtain ⟨w1, qr, r1, b1, e1, hqr⟩ := new_any (t := 33) (cs := Sg.z.cs) zv33 w
  obtain ⟨B, hBe⟩ : ∃ B, w.heap.size = B := ⟨_, rfl⟩
  have l1' := e1.size
  have hb1' := b1.lt
  refine calls_of_args [vb] Try.func50 rfl 156 Try.ntmps50 (by show 1 ≤ 156; decide) ?_
  refine EW.seq ?_
  refine EW.region ?_
  refine WL.new rfl rfl r1 ?_
  first | refine WL.assign rfl rfl rfl ?_
  refine WL.done ?_
  refine EW.on ?_
  refine EW.seq ?_
  refine EW.seq ?_
  by_cases h0 : c.length = 0
  · refine EW.region ?_
    first | refine WL.move rfl rfl rfl ?_
    refine WL.len rfl rfl rfl ((hb.below e1).len _ _) ?_
    refine WL.bin rfl rfl rfl rfl (int_eq_t (by omega) _ _ _) ?_
    refine WL.done ?_
    refine EW.on ?_
    refine EW.cond_t rfl ?_
    refine EW.seq ?_
    refine EW.region ?_
    refine WL.buildN [] rfl rfl rfl (bd33 _) ?_
    obtain ⟨w9, s9, b9, f9⟩ := Sg.st (s := Sg.z) b1 Sg.z_ok Sg.z_ok
    refine WL.store rfl rfl rfl s9 ?_
    first | refine WL.assign rfl rfl rfl ?_
    refine WL.done ?_
    refine EW.on ?_
    refine EW.ret ?_
    refine pr_then ?_
    refine EW.returnsCT Try.results50 rfl rfl b9 Try.underlying33 rfl (by simpa using i33 Sg.z_ok) ⟨?_, bfx e1 (by omega) f9⟩
    have hE : parE c = 10 := by unfold parE; rw [if_pos h0]
    rw [(par_is c).1, (par_is c).2, parS, hE]
    first | rfl | (rw [if_pos rfl]; rfl) | (rw [if_neg (by decide)]; rfl)
  · refine EW.region ?_
    first | refine WL.move rfl rfl rfl ?_
    refine WL.len rfl rfl rfl ((hb.below e1).len _ _) ?_
    refine WL.bin rfl rfl rfl rfl (int_eq_f (by omega) _ _ _) ?_
    refine WL.done ?_
    refine EW.on ?_
    refine EW.cond_f rfl ?_
    refine EW.skip ?_
    refine EW.on ?_
    refine EW.seq ?_
    refine EW.seq ?_
    by_cases hv : numB (cutB c 0 1) = 1
    · refine EW.region ?_
      first | refine WL.move rfl rfl rfl ?_
      obtain ⟨u0, hu0⟩ := ofset (l := c) (j := 0) (by omega)
      obtain ⟨ad0, iu0, lu0⟩ := (hb.below e1).item hu0
      have hcut := cut0 hu0
      refine WL.index rfl rfl rfl rfl (iu0 _) ?_
      refine WL.load rfl rfl rfl lu0 ?_
      refine WL.bin rfl rfl rfl rfl (bne_f (by omega) _ _ _) ?_
      refine WL.done ?_
      refine EW.on ?_
      refine EW.cond_f rfl ?_
      refine EW.skip ?_
      refine EW.on ?_
      refine EW.seq ?_
      refine EW.region ?_
      first | refine WL.move rfl rfl rfl ?_
      have hb1 : Has w1 (cutV vb 1 c.length) (c.drop 1) := by
        have h1 := (hb.below e1).cut 1 c.length (by omega) (Nat.le_refl _)
        rw [List.take_of_length_le (by rw [List.length_drop]; omega)] at h1
        exact h1
      refine WL.sliceL rfl rfl rfl rfl (by rw [sl22]; exact (hb.below e1).cutL 1 (by omega) _) ?_
      refine WL.buildN [(0, cutV vb 1 c.length)] rfl rfl rfl (bld115 _ hb1.sl _) ?_
      obtain ⟨w5, q, r5, b5, e5, hq5'⟩ := box_any 115 [cutV vb 1 c.length, .bool false] w1
      refine WL.box rfl rfl rfl r5 ?_
      have hof : ∀ k, B ≤ k → Off (cutV vb 1 c.length) (c.drop 1) k := fun k hk => by
        by_cases e2 : vb.ownBlock = some k
        · rcases hb.blk e2 with e3 | e3
          · exact .inl (by rw [e3]; rfl)
          · omega
        · exact .inr (fun e => e2 (cut_own e))
      first | refine WL.assign rfl rfl rfl ?_
      refine WL.done ?_
      refine EW.on ?_
      refine EW.seq ?_
      refine EW.region ?_
      obtain ⟨w6, p, r6, bp_0, e6, hp6⟩ := new_any (t := 33) (cs := Sg.z.cs) zv33 w5
      refine WL.new rfl rfl r6 ?_
      have tq_0 : Tq w6 B q c 1 := ⟨_, (show Tk w5 B q (cutV vb 1 c.length) (c.drop 1) (decide (c.length < 1)) from ⟨by rw [decide_eq_false (by omega)]; exact b5, hb1.below e5, hof, by omega⟩).below e6⟩
      have br_0 := (b1.on e5).on e6
      have l_0 := bt (bt e1 e5) e6
      have hq5 := b5.lt
      have hqp : ¬ q = p := by omega
      have hp6' := bp_0.lt
      refine WL.done ?_
      refine EW.on ?_
      refine EW.seq ?_
      refine EW.region ?_
      first | refine WL.move rfl rfl rfl ?_
      have lsz1 := l_0.size
      refine WL.call [.pointer (some ⟨q, 0, none⟩), .int .i64 16] enter66 rfl rfl rfl (tq_take B q 16 1 c _ tq_0 (by omega) (by decide) (by decide) hl) ?_
      rintro _ wc1 ⟨vt1, rfl, ot1, tq1', fc1⟩
      refine ⟨_, rfl, ?_⟩
      have tq_1 : Tq wc1 B q c 17 := tq1'
      have bp_1 := bp_0.fx fc1 (fun e => hqp e.symm)
      have br_1 := br_0.fx fc1 (fun e => by omega)
      have l_1 := bfx l_0 (by omega) fc1
      have lc1 := fc1.size
      have oi_1 := ot1
      first | refine WL.move rfl rfl rfl ?_
      have lsz2 := l_1.size
      refine WL.call [.pointer (some ⟨q, 0, none⟩), .int .i64 64] enter66 rfl rfl rfl (tq_take B q 64 17 c _ tq_1 (by omega) (by decide) (by decide) hl) ?_
      rintro _ wc2 ⟨vt2, rfl, ot2, tq2', fc2⟩
      refine ⟨_, rfl, ?_⟩
      have tq_2 : Tq wc2 B q c 81 := tq2'
      have bp_2 := bp_1.fx fc2 (fun e => hqp e.symm)
      have br_2 := br_1.fx fc2 (fun e => by omega)
      have l_2 := bfx l_1 (by omega) fc2
      have lc2 := fc2.size
      have oi_2 := oi_1.fx fc2 (fun k hk e => by have hk : k = q := hk; have := oi_1.base _ e; omega)
      have ob_2 := ot2
      first | refine WL.assign rfl rfl rfl ?_
      first | refine WL.assign rfl rfl rfl ?_
      refine WL.done ?_
      refine EW.on ?_
      refine EW.seq ?_
      refine EW.seq ?_
      refine EW.region ?_
      first | refine WL.assign rfl rfl rfl ?_
      refine WL.done ?_
      refine EW.on ?_
      refine EW.block ?_
      refine EW.loop (d1E vb qr q p vt1 vt2) (D1I c p wc2) (fun t => 64 - t) 0 [0, 2, 4, 5, 6, 7, 8] rfl ⟨Nat.zero_le _, by
        have e : s1C c 0 = Sg.z := by unfold s1C; rw [show min 0 16 = 0 from rfl, ouB_zero, ouB_zero]; rfl
        rw [e]; exact bp_2, Fx.refl _ _⟩ ?_
      rintro t wi ⟨htl, bi, fxi⟩
      show EW _ _ _ _ [(0, vb), (2, .pointer (some ⟨qr, 0, none⟩)), (4, .pointer (some ⟨q, 0, none⟩)), (5, .pointer (some ⟨p, 0, none⟩)), (6, vt1), (7, vt2), (8, .int .i64 (t : Int))] _
      refine EW.seq ?_
      refine EW.seq ?_
      refine EW.region ?_
      first | refine WL.move rfl rfl rfl ?_
      refine WL.bin rfl rfl rfl rfl (int_lt_d _ _ _ _ _) ?_
      refine WL.done ?_
      refine EW.on ?_
      refine EW.cond_d rfl (fun h30 => ?_) (fun h30 => ?_)
      · refine EW.skip ?_
        refine EW.on ?_
        refine EW.seq ?_
        refine EW.block ?_
        refine EW.seq ?_
        refine EW.region ?_
        first | refine WL.move rfl rfl rfl ?_
        first | refine WL.move rfl rfl rfl ?_
        first | refine WL.move rfl rfl rfl ?_
        have hlt : t < 64 := by omega
        obtain ⟨u, hu⟩ := ofset (l := tkC c 17 64) (j := t) (by rw [tkC_len]; exact hlt)
        obtain ⟨ad, iu, lu⟩ := (ob_2.has.fx fxi (fun k hk e => by have e : k = p := e; have := ob_2.base _ hk; omega)).item hu
        refine WL.index rfl rfl rfl rfl (iu _) ?_
        refine WL.load rfl rfl rfl lu ?_
        refine WL.field rfl rfl rfl (f33_13 p _) ?_
        refine WL.index rfl rfl rfl rfl (ix31 p 279 t hlt _) ?_
        obtain ⟨w11, s11, b11, f11⟩ := Sg.stI_bind (i := t) bi (s1C_ok c htl) hlt u
        refine WL.store rfl rfl rfl s11 ?_
        have fx2 := fxi.and f11
        rw [show (s1C c t).bind.set t u = ouB (tkC c 17 64) 64 (t + 1) from ouB_step hlt (by rw [tkB_self (tkC_len _ _ _)]; exact hu)] at b11
        have k11 : Sg.ok { s1C c t with bind := ouB (tkC c 17 64) 64 (t + 1) } := (s1C_ok c htl).s_bind (ouB_len (by omega))
        refine WL.done ?_
        refine EW.on ?_
        refine EW.seq ?_
        refine EW.region ?_
        first | refine WL.move rfl rfl rfl ?_
        refine WL.bin rfl rfl rfl rfl (int_lt_d _ _ _ _ _) ?_
        refine WL.done ?_
        refine EW.on ?_
        refine EW.cond_d rfl (fun h41 => ?_) (fun h41 => ?_)
        · have h41' : t < 16 := by omega
          refine EW.region ?_
          first | refine WL.move rfl rfl rfl ?_
          first | refine WL.move rfl rfl rfl ?_
          first | refine WL.move rfl rfl rfl ?_
          obtain ⟨u', hu'⟩ := ofset (l := tkC c 1 16) (j := t) (by rw [tkC_len]; exact h41')
          obtain ⟨ad', iu', lu'⟩ := (oi_2.has.fx fx2 (fun k hk e => by have e : k = p := e; have := oi_2.base _ hk; omega)).item hu'
          refine WL.index rfl rfl rfl rfl (iu' _) ?_
          refine WL.load rfl rfl rfl lu' ?_
          refine WL.field rfl rfl rfl (f33_0 p _) ?_
          refine WL.index rfl rfl rfl rfl (ix23 p 0 t h41' _) ?_
          obtain ⟨w13, s13, b13, f13⟩ := Sg.stI_sid (i := t) b11 k11 h41' u'
          refine WL.store rfl rfl rfl s13 ?_
          have fx3 := fx2.and f13
          have b13 : Blk w13 p (s1C c (t + 1)).cs 33 := by
            have e : (ouB (tkC c 1 16) 16 (min t 16)).set t u' = ouB (tkC c 1 16) 16 (min (t + 1) 16) := by
              rw [Nat.min_eq_left (by omega), Nat.min_eq_left (by omega)]
              exact ouB_step h41' (by rw [tkB_self (tkC_len _ _ _)]; exact hu')
            unfold s1C
            rw [← e]
            exact b13
          refine WL.done ?_
          refine pn_block ?_
          refine EW.on ?_
          refine EW.region ?_
          first | refine WL.move rfl rfl rfl ?_
          refine WL.bin rfl rfl rfl rfl (int_add (c := ((t + 1 : Nat) : Int)) (by rw [IntKind.wrap_i64]; omega) _ _ _) ?_
          first | refine WL.assign rfl rfl rfl ?_
          refine WL.done ?_
          exact EW.again (E := d1E vb qr q p vt1 vt2) (R := D1I c p wc2) (m := fun t => 64 - t) (x := t) (t + 1) [0, 2, 4, 5, 6, 7, 8] rfl ⟨by omega, b13, fx3⟩ (by show 64 - (t + 1) < 64 - t; omega)
        · refine EW.skip ?_
          refine pn_block ?_
          refine EW.on ?_
          refine EW.region ?_
          first | refine WL.move rfl rfl rfl ?_
          refine WL.bin rfl rfl rfl rfl (int_add (c := ((t + 1 : Nat) : Int)) (by rw [IntKind.wrap_i64]; omega) _ _ _) ?_
          first | refine WL.assign rfl rfl rfl ?_
          refine WL.done ?_
          exact EW.again (E := d1E vb qr q p vt1 vt2) (R := D1I c p wc2) (m := fun t => 64 - t) (x := t) (t + 1) [0, 2, 4, 5, 6, 7, 8] rfl ⟨by omega, by unfold s1C; rw [min_stay (fun h => h41 (by omega))]; exact b11, fx2⟩ (by show 64 - (t + 1) < 64 - t; omega)
      · refine EW.exit ?_
        refine px_then ?_
        refine px_then ?_
        refine px_block ?_
        refine EW.on ?_
        refine EW.seq ?_
        have hte : t = 64 := by omega
        have bl_3 : Blk wi p (Sg.cs (⟨tkC c 1 16, z32, z32, z32, z32, z32, z32, 0, 0, 0, 0, 0, 0, Hl.z, tkC c 17 64⟩ : Sg)) 33 := by
          have h := bi
          unfold s1C at h
          rw [hte, show min 64 16 = 16 from rfl, ouB_all, ouB_all, tkB_self (tkC_len _ _ _), tkB_self (tkC_len _ _ _)] at h
          exact h
        have kl_3 : Sg.ok (⟨tkC c 1 16, z32, z32, z32, z32, z32, z32, 0, 0, 0, 0, 0, 0, Hl.z, tkC c 17 64⟩ : Sg) := (Sg.z_ok.s_sid (tkC_len _ _ _)).s_bind (tkC_len _ _ _)
        have tq_4 := tq_2.fx fxi (fun e => hqp e) (fun k hk => by have hk : k = p := hk; omega)
        have br_4 := br_2.fx fxi (fun e => by omega)
        have l_4 := bfx l_2 (by omega) fxi
        refine EW.region ?_
        first | refine WL.move rfl rfl rfl ?_
        have lsz5 := l_4.size
        refine WL.call [.pointer (some ⟨q, 0, none⟩)] enter67 rfl rfl rfl (tq_key B q 81 c _ tq_4 (by omega) hl) ?_
        rintro _ wc5 ⟨rfl, tq5', fc5⟩
        refine ⟨_, rfl, ?_⟩
        have tq_5 : Tq wc5 B q c 113 := tq5'
        have bp_5 := bl_3.fx fc5 (fun e => hqp e.symm)
        have br_5 := br_4.fx fc5 (fun e => by omega)
        have l_5 := bfx l_4 (by omega) fc5
        have lc5 := fc5.size
        first | refine WL.field rfl rfl rfl (f33_1 p _) ?_
        obtain ⟨w_6, s_6, bb_6, fx_6⟩ := Sg.st_root bp_5 kl_3 (x := (tkC c 81 32)) (tkC_len _ _ _)
        have bc_6 : Blk w_6 p (Sg.cs (⟨(tkC c 1 16), (tkC c 81 32), z32, z32, z32, z32, z32, 0, 0, 0, 0, 0, 0, Hl.z, (tkC c 17 64)⟩ : Sg)) 33 := bb_6
        have k_6 : Sg.ok (⟨(tkC c 1 16), (tkC c 81 32), z32, z32, z32, z32, z32, 0, 0, 0, 0, 0, 0, Hl.z, (tkC c 17 64)⟩ : Sg) := kl_3.s_root (x := (tkC c 81 32)) (tkC_len _ _ _)
        clear bb_6
        refine WL.store rfl rfl rfl s_6 ?_
        have tq_7 := tq_5.fx fx_6 (fun e => hqp e) (fun k hk => by have hk : k = p := hk; omega)
        have br_7 := br_5.fx fx_6 (fun e => by omega)
        have l_7 := bfx l_5 (by omega) fx_6
        refine WL.done ?_
        refine EW.on ?_
        refine EW.seq ?_
        refine EW.region ?_
        first | refine WL.move rfl rfl rfl ?_
        have lsz8 := l_7.size
        refine WL.call [.pointer (some ⟨q, 0, none⟩)] enter67 rfl rfl rfl (tq_key B q 113 c _ tq_7 (by omega) hl) ?_
        rintro _ wc8 ⟨rfl, tq8', fc8⟩
        refine ⟨_, rfl, ?_⟩
        have tq_8 : Tq wc8 B q c 145 := tq8'
        have bp_8 := bc_6.fx fc8 (fun e => hqp e.symm)
        have br_8 := br_7.fx fc8 (fun e => by omega)
        have l_8 := bfx l_7 (by omega) fc8
        have lc8 := fc8.size
        first | refine WL.field rfl rfl rfl (f33_2 p _) ?_
        first | refine WL.field rfl rfl rfl (f27_0 p 48 _) ?_
        obtain ⟨w_9, s_9, bb_9, fx_9⟩ := Sg.st_pri bp_8 k_6 (x := (tkC c 113 32)) (tkC_len _ _ _)
        have bc_9 : Blk w_9 p (Sg.cs (⟨(tkC c 1 16), (tkC c 81 32), (tkC c 113 32), z32, z32, z32, z32, 0, 0, 0, 0, 0, 0, Hl.z, (tkC c 17 64)⟩ : Sg)) 33 := bb_9
        have k_9 : Sg.ok (⟨(tkC c 1 16), (tkC c 81 32), (tkC c 113 32), z32, z32, z32, z32, 0, 0, 0, 0, 0, 0, Hl.z, (tkC c 17 64)⟩ : Sg) := k_6.s_pri (x := (tkC c 113 32)) (tkC_len _ _ _)
        clear bb_9
        refine WL.store rfl rfl rfl s_9 ?_
        have tq_10 := tq_8.fx fx_9 (fun e => hqp e) (fun k hk => by have hk : k = p := hk; omega)
        have br_10 := br_8.fx fx_9 (fun e => by omega)
        have l_10 := bfx l_8 (by omega) fx_9
        refine WL.done ?_
        refine EW.on ?_
        refine EW.seq ?_
        refine EW.region ?_
        first | refine WL.move rfl rfl rfl ?_
        have lsz11 := l_10.size
        refine WL.call [.pointer (some ⟨q, 0, none⟩)] enter67 rfl rfl rfl (tq_key B q 145 c _ tq_10 (by omega) hl) ?_
        rintro _ wc11 ⟨rfl, tq11', fc11⟩
        refine ⟨_, rfl, ?_⟩
        have tq_11 : Tq wc11 B q c 177 := tq11'
        have bp_11 := bc_9.fx fc11 (fun e => hqp e.symm)
        have br_11 := br_10.fx fc11 (fun e => by omega)
        have l_11 := bfx l_10 (by omega) fc11
        have lc11 := fc11.size
        first | refine WL.field rfl rfl rfl (f33_2 p _) ?_
        first | refine WL.field rfl rfl rfl (f27_1 p 48 _) ?_
        obtain ⟨w_12, s_12, bb_12, fx_12⟩ := Sg.st_pub bp_11 k_9 (x := (tkC c 145 32)) (tkC_len _ _ _)
        have bc_12 : Blk w_12 p (Sg.cs (⟨(tkC c 1 16), (tkC c 81 32), (tkC c 113 32), (tkC c 145 32), z32, z32, z32, 0, 0, 0, 0, 0, 0, Hl.z, (tkC c 17 64)⟩ : Sg)) 33 := bb_12
        have k_12 : Sg.ok (⟨(tkC c 1 16), (tkC c 81 32), (tkC c 113 32), (tkC c 145 32), z32, z32, z32, 0, 0, 0, 0, 0, 0, Hl.z, (tkC c 17 64)⟩ : Sg) := k_9.s_pub (x := (tkC c 145 32)) (tkC_len _ _ _)
        clear bb_12
        refine WL.store rfl rfl rfl s_12 ?_
        have tq_13 := tq_11.fx fx_12 (fun e => hqp e) (fun k hk => by have hk : k = p := hk; omega)
        have br_13 := br_11.fx fx_12 (fun e => by omega)
        have l_13 := bfx l_11 (by omega) fx_12
        refine WL.done ?_
        refine EW.on ?_
        refine EW.seq ?_
        refine EW.region ?_
        first | refine WL.move rfl rfl rfl ?_
        have lsz14 := l_13.size
        refine WL.call [.pointer (some ⟨q, 0, none⟩)] enter67 rfl rfl rfl (tq_key B q 177 c _ tq_13 (by omega) hl) ?_
        rintro _ wc14 ⟨rfl, tq14', fc14⟩
        refine ⟨_, rfl, ?_⟩
        have tq_14 : Tq wc14 B q c 209 := tq14'
        have bp_14 := bc_12.fx fc14 (fun e => hqp e.symm)
        have br_14 := br_13.fx fc14 (fun e => by omega)
        have l_14 := bfx l_13 (by omega) fc14
        have lc14 := fc14.size
        first | refine WL.field rfl rfl rfl (f33_3 p _) ?_
        obtain ⟨w_15, s_15, bb_15, fx_15⟩ := Sg.st_peer bp_14 k_12 (x := (tkC c 177 32)) (tkC_len _ _ _)
        have bc_15 : Blk w_15 p (Sg.cs (⟨(tkC c 1 16), (tkC c 81 32), (tkC c 113 32), (tkC c 145 32), (tkC c 177 32), z32, z32, 0, 0, 0, 0, 0, 0, Hl.z, (tkC c 17 64)⟩ : Sg)) 33 := bb_15
        have k_15 : Sg.ok (⟨(tkC c 1 16), (tkC c 81 32), (tkC c 113 32), (tkC c 145 32), (tkC c 177 32), z32, z32, 0, 0, 0, 0, 0, 0, Hl.z, (tkC c 17 64)⟩ : Sg) := k_12.s_peer (x := (tkC c 177 32)) (tkC_len _ _ _)
        clear bb_15
        refine WL.store rfl rfl rfl s_15 ?_
        have tq_16 := tq_14.fx fx_15 (fun e => hqp e) (fun k hk => by have hk : k = p := hk; omega)
        have br_16 := br_14.fx fx_15 (fun e => by omega)
        have l_16 := bfx l_14 (by omega) fx_15
        refine WL.done ?_
        refine EW.on ?_
        refine EW.seq ?_
        refine EW.region ?_
        first | refine WL.move rfl rfl rfl ?_
        have lsz17 := l_16.size
        refine WL.call [.pointer (some ⟨q, 0, none⟩)] enter68 rfl rfl rfl (tq_four B q 209 c _ tq_16 (by omega) hl) ?_
        rintro _ wc17 ⟨rfl, tq17', fc17⟩
        refine ⟨_, rfl, ?_⟩
        have tq_17 : Tq wc17 B q c 213 := tq17'
        have bp_17 := bc_15.fx fc17 (fun e => hqp e.symm)
        have br_17 := br_16.fx fc17 (fun e => by omega)
        have l_17 := bfx l_16 (by omega) fc17
        have lc17 := fc17.size
        first | refine WL.move rfl rfl rfl ?_
        have lsz18 := l_17.size
        refine WL.call [.pointer (some ⟨q, 0, none⟩)] enter68 rfl rfl rfl (tq_four B q 213 c _ tq_17 (by omega) hl) ?_
        rintro _ wc18 ⟨rfl, tq18', fc18⟩
        refine ⟨_, rfl, ?_⟩
        have tq_18 : Tq wc18 B q c 217 := tq18'
        have bp_18 := bp_17.fx fc18 (fun e => hqp e.symm)
        have br_18 := br_17.fx fc18 (fun e => by omega)
        have l_18 := bfx l_17 (by omega) fc18
        have lc18 := fc18.size
        first | refine WL.move rfl rfl rfl ?_
        have lsz19 := l_18.size
        refine WL.call [.pointer (some ⟨q, 0, none⟩)] enter68 rfl rfl rfl (tq_four B q 217 c _ tq_18 (by omega) hl) ?_
        rintro _ wc19 ⟨rfl, tq19', fc19⟩
        refine ⟨_, rfl, ?_⟩
        have tq_19 : Tq wc19 B q c 221 := tq19'
        have bp_19 := bp_18.fx fc19 (fun e => hqp e.symm)
        have br_19 := br_18.fx fc19 (fun e => by omega)
        have l_19 := bfx l_18 (by omega) fc19
        have lc19 := fc19.size
        first | refine WL.field rfl rfl rfl (f33_6 p _) ?_
        obtain ⟨w_20, s_20, bb_20, fx_20⟩ := Sg.st_own bp_19 k_15 ((numB (tkC c 209 4)))
        have bc_20 : Blk w_20 p (Sg.cs (⟨(tkC c 1 16), (tkC c 81 32), (tkC c 113 32), (tkC c 145 32), (tkC c 177 32), z32, z32, (numB (tkC c 209 4)), 0, 0, 0, 0, 0, Hl.z, (tkC c 17 64)⟩ : Sg)) 33 := bb_20
        have k_20 : Sg.ok (⟨(tkC c 1 16), (tkC c 81 32), (tkC c 113 32), (tkC c 145 32), (tkC c 177 32), z32, z32, (numB (tkC c 209 4)), 0, 0, 0, 0, 0, Hl.z, (tkC c 17 64)⟩ : Sg) := k_15.s_own (x := (numB (tkC c 209 4))) (numB_32 _ (Nat.le_of_eq (tkC_len _ _ _)))
        clear bb_20
        refine WL.store rfl rfl rfl s_20 ?_
        have tq_21 := tq_19.fx fx_20 (fun e => hqp e) (fun k hk => by have hk : k = p := hk; omega)
        have br_21 := br_19.fx fx_20 (fun e => by omega)
        have l_21 := bfx l_19 (by omega) fx_20
        first | refine WL.field rfl rfl rfl (f33_7 p _) ?_
        obtain ⟨w_22, s_22, bb_22, fx_22⟩ := Sg.st_turns bc_20 k_20 ((numB (tkC c 213 4)))
        have bc_22 : Blk w_22 p (Sg.cs (⟨(tkC c 1 16), (tkC c 81 32), (tkC c 113 32), (tkC c 145 32), (tkC c 177 32), z32, z32, (numB (tkC c 209 4)), (numB (tkC c 213 4)), 0, 0, 0, 0, Hl.z, (tkC c 17 64)⟩ : Sg)) 33 := bb_22
        have k_22 : Sg.ok (⟨(tkC c 1 16), (tkC c 81 32), (tkC c 113 32), (tkC c 145 32), (tkC c 177 32), z32, z32, (numB (tkC c 209 4)), (numB (tkC c 213 4)), 0, 0, 0, 0, Hl.z, (tkC c 17 64)⟩ : Sg) := k_20.s_turns (x := (numB (tkC c 213 4))) (numB_32 _ (Nat.le_of_eq (tkC_len _ _ _)))
        clear bb_22
        refine WL.store rfl rfl rfl s_22 ?_
        have tq_23 := tq_21.fx fx_22 (fun e => hqp e) (fun k hk => by have hk : k = p := hk; omega)
        have br_23 := br_21.fx fx_22 (fun e => by omega)
        have l_23 := bfx l_21 (by omega) fx_22
        first | refine WL.field rfl rfl rfl (f33_11 p _) ?_
        obtain ⟨w_24, s_24, bb_24, fx_24⟩ := Sg.st_ser bc_22 k_22 ((numB (tkC c 217 4)))
        have bc_24 : Blk w_24 p (Sg.cs (⟨(tkC c 1 16), (tkC c 81 32), (tkC c 113 32), (tkC c 145 32), (tkC c 177 32), z32, z32, (numB (tkC c 209 4)), (numB (tkC c 213 4)), 0, 0, 0, (numB (tkC c 217 4)), Hl.z, (tkC c 17 64)⟩ : Sg)) 33 := bb_24
        have k_24 : Sg.ok (⟨(tkC c 1 16), (tkC c 81 32), (tkC c 113 32), (tkC c 145 32), (tkC c 177 32), z32, z32, (numB (tkC c 209 4)), (numB (tkC c 213 4)), 0, 0, 0, (numB (tkC c 217 4)), Hl.z, (tkC c 17 64)⟩ : Sg) := k_22.s_ser (x := (numB (tkC c 217 4))) (numB_32 _ (Nat.le_of_eq (tkC_len _ _ _)))
        clear bb_24
        refine WL.store rfl rfl rfl s_24 ?_
        have tq_25 := tq_23.fx fx_24 (fun e => hqp e) (fun k hk => by have hk : k = p := hk; omega)
        have br_25 := br_23.fx fx_24 (fun e => by omega)
        have l_25 := bfx l_23 (by omega) fx_24
        refine WL.done ?_
        refine EW.on ?_
        refine EW.seq ?_
        refine EW.seq ?_
        refine EW.region ?_
        first | refine WL.field rfl rfl rfl (f33_6 p _) ?_
        first | refine WL.load rfl rfl rfl (Sg.ld_own bc_24 k_24) ?_
        refine WL.bin rfl rfl rfl rfl (u_gt_d (numB (tkC c 209 4)) 0 _ _ _) ?_
        refine WL.done ?_
        refine EW.on ?_
        refine EW.cond_d rfl (fun h74 => ?_) (fun h74 => ?_)
        · refine EW.region ?_
          first | refine WL.move rfl rfl rfl ?_
          have lsz26 := l_25.size
          refine WL.call [.pointer (some ⟨q, 0, none⟩)] enter67 rfl rfl rfl (tq_key B q 221 c _ tq_25 (by omega) hl) ?_
          rintro _ wc26 ⟨rfl, tq26', fc26⟩
          refine ⟨_, rfl, ?_⟩
          have tq_26 : Tq wc26 B q c 253 := tq26'
          have bp_26 := bc_24.fx fc26 (fun e => hqp e.symm)
          have br_26 := br_25.fx fc26 (fun e => by omega)
          have l_26 := bfx l_25 (by omega) fc26
          have lc26 := fc26.size
          first | refine WL.move rfl rfl rfl ?_
          have lsz27 := l_26.size
          refine WL.call [.pointer (some ⟨q, 0, none⟩)] enter68 rfl rfl rfl (tq_four B q 253 c _ tq_26 (by omega) hl) ?_
          rintro _ wc27 ⟨rfl, tq27', fc27⟩
          refine ⟨_, rfl, ?_⟩
          have tq_27 : Tq wc27 B q c 257 := tq27'
          have bp_27 := bp_26.fx fc27 (fun e => hqp e.symm)
          have br_27 := br_26.fx fc27 (fun e => by omega)
          have l_27 := bfx l_26 (by omega) fc27
          have lc27 := fc27.size
          first | refine WL.move rfl rfl rfl ?_
          have lsz28 := l_27.size
          refine WL.call [.pointer (some ⟨q, 0, none⟩)] enter68 rfl rfl rfl (tq_four B q 257 c _ tq_27 (by omega) hl) ?_
          rintro _ wc28 ⟨rfl, tq28', fc28⟩
          refine ⟨_, rfl, ?_⟩
          have tq_28 : Tq wc28 B q c 261 := tq28'
          have bp_28 := bp_27.fx fc28 (fun e => hqp e.symm)
          have br_28 := br_27.fx fc28 (fun e => by omega)
          have l_28 := bfx l_27 (by omega) fc28
          have lc28 := fc28.size
          first | refine WL.field rfl rfl rfl (f33_4 p _) ?_
          obtain ⟨w_29, s_29, bb_29, fx_29⟩ := Sg.st_sk bp_28 k_24 (x := (tkC c 221 32)) (tkC_len _ _ _)
          have bc_29 : Blk w_29 p (Sg.cs (⟨(tkC c 1 16), (tkC c 81 32), (tkC c 113 32), (tkC c 145 32), (tkC c 177 32), (tkC c 221 32), z32, (numB (tkC c 209 4)), (numB (tkC c 213 4)), 0, 0, 0, (numB (tkC c 217 4)), Hl.z, (tkC c 17 64)⟩ : Sg)) 33 := bb_29
          have k_29 : Sg.ok (⟨(tkC c 1 16), (tkC c 81 32), (tkC c 113 32), (tkC c 145 32), (tkC c 177 32), (tkC c 221 32), z32, (numB (tkC c 209 4)), (numB (tkC c 213 4)), 0, 0, 0, (numB (tkC c 217 4)), Hl.z, (tkC c 17 64)⟩ : Sg) := k_24.s_sk (x := (tkC c 221 32)) (tkC_len _ _ _)
          clear bb_29
          refine WL.store rfl rfl rfl s_29 ?_
          have tq_30 := tq_28.fx fx_29 (fun e => hqp e) (fun k hk => by have hk : k = p := hk; omega)
          have br_30 := br_28.fx fx_29 (fun e => by omega)
          have l_30 := bfx l_28 (by omega) fx_29
          first | refine WL.field rfl rfl rfl (f33_8 p _) ?_
          obtain ⟨w_31, s_31, bb_31, fx_31⟩ := Sg.st_sent bc_29 k_29 ((numB (tkC c 253 4)))
          have bc_31 : Blk w_31 p (Sg.cs (⟨(tkC c 1 16), (tkC c 81 32), (tkC c 113 32), (tkC c 145 32), (tkC c 177 32), (tkC c 221 32), z32, (numB (tkC c 209 4)), (numB (tkC c 213 4)), (numB (tkC c 253 4)), 0, 0, (numB (tkC c 217 4)), Hl.z, (tkC c 17 64)⟩ : Sg)) 33 := bb_31
          have k_31 : Sg.ok (⟨(tkC c 1 16), (tkC c 81 32), (tkC c 113 32), (tkC c 145 32), (tkC c 177 32), (tkC c 221 32), z32, (numB (tkC c 209 4)), (numB (tkC c 213 4)), (numB (tkC c 253 4)), 0, 0, (numB (tkC c 217 4)), Hl.z, (tkC c 17 64)⟩ : Sg) := k_29.s_sent (x := (numB (tkC c 253 4))) (numB_32 _ (Nat.le_of_eq (tkC_len _ _ _)))
          clear bb_31
          refine WL.store rfl rfl rfl s_31 ?_
          have tq_32 := tq_30.fx fx_31 (fun e => hqp e) (fun k hk => by have hk : k = p := hk; omega)
          have br_32 := br_30.fx fx_31 (fun e => by omega)
          have l_32 := bfx l_30 (by omega) fx_31
          first | refine WL.field rfl rfl rfl (f33_10 p _) ?_
          obtain ⟨w_33, s_33, bb_33, fx_33⟩ := Sg.st_prev bc_31 k_31 ((numB (tkC c 257 4)))
          have bc_33 : Blk w_33 p (Sg.cs (⟨(tkC c 1 16), (tkC c 81 32), (tkC c 113 32), (tkC c 145 32), (tkC c 177 32), (tkC c 221 32), z32, (numB (tkC c 209 4)), (numB (tkC c 213 4)), (numB (tkC c 253 4)), 0, (numB (tkC c 257 4)), (numB (tkC c 217 4)), Hl.z, (tkC c 17 64)⟩ : Sg)) 33 := bb_33
          have k_33 : Sg.ok (⟨(tkC c 1 16), (tkC c 81 32), (tkC c 113 32), (tkC c 145 32), (tkC c 177 32), (tkC c 221 32), z32, (numB (tkC c 209 4)), (numB (tkC c 213 4)), (numB (tkC c 253 4)), 0, (numB (tkC c 257 4)), (numB (tkC c 217 4)), Hl.z, (tkC c 17 64)⟩ : Sg) := k_31.s_prev (x := (numB (tkC c 257 4))) (numB_32 _ (Nat.le_of_eq (tkC_len _ _ _)))
          clear bb_33
          refine WL.store rfl rfl rfl s_33 ?_
          have tq_34 := tq_32.fx fx_33 (fun e => hqp e) (fun k hk => by have hk : k = p := hk; omega)
          have br_34 := br_32.fx fx_33 (fun e => by omega)
          have l_34 := bfx l_32 (by omega) fx_33
          refine WL.done ?_
          refine EW.on ?_
          refine EW.seq ?_
          refine EW.seq ?_
          refine EW.region ?_
          first | refine WL.field rfl rfl rfl (f33_7 p _) ?_
          first | refine WL.load rfl rfl rfl (Sg.ld_turns bc_33 k_33) ?_
          refine WL.bin rfl rfl rfl rfl (u_gt_d (numB (tkC c 213 4)) 0 _ _ _) ?_
          refine WL.done ?_
          refine EW.on ?_
          refine EW.cond_d rfl (fun h86 => ?_) (fun h86 => ?_)
          · refine EW.region ?_
            first | refine WL.move rfl rfl rfl ?_
            have lsz35 := l_34.size
            refine WL.call [.pointer (some ⟨q, 0, none⟩)] enter67 rfl rfl rfl (tq_key B q 261 c _ tq_34 (by omega) hl) ?_
            rintro _ wc35 ⟨rfl, tq35', fc35⟩
            refine ⟨_, rfl, ?_⟩
            have tq_35 : Tq wc35 B q c 293 := tq35'
            have bp_35 := bc_33.fx fc35 (fun e => hqp e.symm)
            have br_35 := br_34.fx fc35 (fun e => by omega)
            have l_35 := bfx l_34 (by omega) fc35
            have lc35 := fc35.size
            first | refine WL.move rfl rfl rfl ?_
            have lsz36 := l_35.size
            refine WL.call [.pointer (some ⟨q, 0, none⟩)] enter68 rfl rfl rfl (tq_four B q 293 c _ tq_35 (by omega) hl) ?_
            rintro _ wc36 ⟨rfl, tq36', fc36⟩
            refine ⟨_, rfl, ?_⟩
            have tq_36 : Tq wc36 B q c 297 := tq36'
            have bp_36 := bp_35.fx fc36 (fun e => hqp e.symm)
            have br_36 := br_35.fx fc36 (fun e => by omega)
            have l_36 := bfx l_35 (by omega) fc36
            have lc36 := fc36.size
            first | refine WL.field rfl rfl rfl (f33_5 p _) ?_
            obtain ⟨w_37, s_37, bb_37, fx_37⟩ := Sg.st_rk bp_36 k_33 (x := (tkC c 261 32)) (tkC_len _ _ _)
            have bc_37 : Blk w_37 p (Sg.cs (⟨(tkC c 1 16), (tkC c 81 32), (tkC c 113 32), (tkC c 145 32), (tkC c 177 32), (tkC c 221 32), (tkC c 261 32), (numB (tkC c 209 4)), (numB (tkC c 213 4)), (numB (tkC c 253 4)), 0, (numB (tkC c 257 4)), (numB (tkC c 217 4)), Hl.z, (tkC c 17 64)⟩ : Sg)) 33 := bb_37
            have k_37 : Sg.ok (⟨(tkC c 1 16), (tkC c 81 32), (tkC c 113 32), (tkC c 145 32), (tkC c 177 32), (tkC c 221 32), (tkC c 261 32), (numB (tkC c 209 4)), (numB (tkC c 213 4)), (numB (tkC c 253 4)), 0, (numB (tkC c 257 4)), (numB (tkC c 217 4)), Hl.z, (tkC c 17 64)⟩ : Sg) := k_33.s_rk (x := (tkC c 261 32)) (tkC_len _ _ _)
            clear bb_37
            refine WL.store rfl rfl rfl s_37 ?_
            have tq_38 := tq_36.fx fx_37 (fun e => hqp e) (fun k hk => by have hk : k = p := hk; omega)
            have br_38 := br_36.fx fx_37 (fun e => by omega)
            have l_38 := bfx l_36 (by omega) fx_37
            first | refine WL.field rfl rfl rfl (f33_9 p _) ?_
            obtain ⟨w_39, s_39, bb_39, fx_39⟩ := Sg.st_got bc_37 k_37 ((numB (tkC c 293 4)))
            have bc_39 : Blk w_39 p (Sg.cs (⟨(tkC c 1 16), (tkC c 81 32), (tkC c 113 32), (tkC c 145 32), (tkC c 177 32), (tkC c 221 32), (tkC c 261 32), (numB (tkC c 209 4)), (numB (tkC c 213 4)), (numB (tkC c 253 4)), (numB (tkC c 293 4)), (numB (tkC c 257 4)), (numB (tkC c 217 4)), Hl.z, (tkC c 17 64)⟩ : Sg)) 33 := bb_39
            have k_39 : Sg.ok (⟨(tkC c 1 16), (tkC c 81 32), (tkC c 113 32), (tkC c 145 32), (tkC c 177 32), (tkC c 221 32), (tkC c 261 32), (numB (tkC c 209 4)), (numB (tkC c 213 4)), (numB (tkC c 253 4)), (numB (tkC c 293 4)), (numB (tkC c 257 4)), (numB (tkC c 217 4)), Hl.z, (tkC c 17 64)⟩ : Sg) := k_37.s_got (x := (numB (tkC c 293 4))) (numB_32 _ (Nat.le_of_eq (tkC_len _ _ _)))
            clear bb_39
            refine WL.store rfl rfl rfl s_39 ?_
            have tq_40 := tq_38.fx fx_39 (fun e => hqp e) (fun k hk => by have hk : k = p := hk; omega)
            have br_40 := br_38.fx fx_39 (fun e => by omega)
            have l_40 := bfx l_38 (by omega) fx_39
            refine WL.done ?_
            refine EW.on ?_
            refine EW.seq ?_
            refine EW.region ?_
            first | refine WL.move rfl rfl rfl ?_
            have lsz41 := l_40.size
            refine WL.call [.pointer (some ⟨q, 0, none⟩), .int .i64 1] enter66 rfl rfl rfl (tq_take B q 1 297 c _ tq_40 (by omega) (by decide) (by decide) hl) ?_
            rintro _ wc41 ⟨vt41, rfl, ot41, tq41', fc41⟩
            refine ⟨_, rfl, ?_⟩
            have tq_41 : Tq wc41 B q c 298 := tq41'
            have bp_41 := bc_39.fx fc41 (fun e => hqp e.symm)
            have br_41 := br_40.fx fc41 (fun e => by omega)
            have l_41 := bfx l_40 (by omega) fc41
            have lc41 := fc41.size
            obtain ⟨u, hu1, hu2⟩ := tk1 c 297
            rw [hu1] at ot41
            obtain ⟨adm, ium, lum⟩ := ot41.has.item (i := 0) (u := u) rfl
            refine WL.index rfl rfl rfl rfl (ium _) ?_
            refine WL.load rfl rfl rfl lum ?_
            first | refine WL.assign rfl rfl rfl ?_
            refine WL.done ?_
            refine EW.on ?_
            refine EW.seq ?_
            refine EW.seq ?_
            by_cases hsh : c.length < 298
            · have hpT : pT c = 297 := by unfold pT oT; rw [if_pos h86, if_pos h74]
              refine EW.region ?_
              first | refine WL.move rfl rfl rfl ?_
              first | refine WL.nilc rfl rfl rfl ?_
              refine WL.field rfl rfl rfl (f115_1 q _) ?_
              have htq24 := tq_41
              obtain ⟨bvx24, tkx24⟩ := htq24
              have blx24 := tkx24.bl
              rw [decide_eq_true hsh] at blx24
              refine WL.load rfl rfl rfl (ldBo blx24 rfl) ?_
              refine WL.done ?_
              refine EW.on ?_
              refine EW.cond_t rfl ?_
              refine EW.seq ?_
              refine EW.region ?_
              refine WL.buildN [] rfl rfl rfl (bd33 _) ?_
              obtain ⟨w9, s9, b9, f9⟩ := Sg.st (s := Sg.z) br_41 Sg.z_ok Sg.z_ok
              refine WL.store rfl rfl rfl s9 ?_
              first | refine WL.assign rfl rfl rfl ?_
              refine WL.done ?_
              refine EW.on ?_
              refine EW.ret ?_
              refine pr_then ?_
              refine EW.returnsCT Try.results50 rfl rfl b9 Try.underlying33 rfl (by simpa using i33 Sg.z_ok) ⟨?_, bfx l_41 (by omega) f9⟩
              have hE : parE c = 10 := doc_short h0 hv (by omega)
              rw [(par_is c).1, (par_is c).2, parS, hE]
              first | rfl | (rw [if_pos rfl]; rfl) | (rw [if_neg (by decide)]; rfl)
            · have hpT : pT c = 297 := by unfold pT oT; rw [if_pos h86, if_pos h74]
              refine EW.region ?_
              first | refine WL.move rfl rfl rfl ?_
              first | refine WL.nilc rfl rfl rfl ?_
              refine WL.field rfl rfl rfl (f115_1 q _) ?_
              have htq24 := tq_41
              obtain ⟨bvx24, tkx24⟩ := htq24
              have blx24 := tkx24.bl
              rw [decide_eq_false hsh] at blx24
              refine WL.load rfl rfl rfl (ldBo blx24 rfl) ?_
              refine WL.done ?_
              refine EW.on ?_
              refine EW.cond_f rfl ?_
              refine EW.skip ?_
              refine EW.on ?_
              refine EW.seq ?_
              refine EW.seq ?_
              have hmc : u.toNat = 0 ∨ u.toNat = 1 ∨ 1 < u.toNat := by omega
              rcases hmc with hmc | hmc | hmc
              · have hmm : numB (tkC c (pT c) 1) = u.toNat := by rw [hpT]; exact hu2
                refine EW.region ?_
                first | refine WL.move rfl rfl rfl ?_
                refine WL.bin rfl rfl rfl rfl (bgt_f (by omega) _ _ _) ?_
                refine WL.done ?_
                refine EW.on ?_
                refine EW.cond_f rfl ?_
                refine EW.skip ?_
                refine EW.on ?_
                refine EW.seq ?_
                refine EW.seq ?_
                refine EW.region ?_
                first | refine WL.move rfl rfl rfl ?_
                refine WL.bin rfl rfl rfl rfl (beq_f (by omega) _ _ _) ?_
                refine WL.done ?_
                refine EW.on ?_
                refine EW.cond_f rfl ?_
                refine EW.skip ?_
                refine EW.on ?_
                refine EW.seq ?_
                refine EW.seq ?_
                by_cases hsh2 : c.length < 298
                · have heT : eT c = 298 := by unfold eT; rw [hpT, hu2]; rw [if_neg (by omega)]
                  refine EW.region ?_
                  first | refine WL.move rfl rfl rfl ?_
                  first | refine WL.nilc rfl rfl rfl ?_
                  refine WL.field rfl rfl rfl (f115_1 q _) ?_
                  have htq34 := tq_41
                  obtain ⟨bvx34, tkx34⟩ := htq34
                  have blx34 := tkx34.bl
                  rw [decide_eq_true hsh2] at blx34
                  refine WL.load rfl rfl rfl (ldBo blx34 rfl) ?_
                  refine WL.done ?_
                  refine EW.on ?_
                  refine EW.cond_t rfl ?_
                  refine EW.seq ?_
                  refine EW.region ?_
                  refine WL.buildN [] rfl rfl rfl (bd33 _) ?_
                  obtain ⟨w9, s9, b9, f9⟩ := Sg.st (s := Sg.z) br_41 Sg.z_ok Sg.z_ok
                  refine WL.store rfl rfl rfl s9 ?_
                  first | refine WL.assign rfl rfl rfl ?_
                  refine WL.done ?_
                  refine EW.on ?_
                  refine EW.ret ?_
                  refine pr_then ?_
                  refine EW.returnsCT Try.results50 rfl rfl b9 Try.underlying33 rfl (by simpa using i33 Sg.z_ok) ⟨?_, bfx l_41 (by omega) f9⟩
                  have hE : parE c = 10 := doc_short2 h0 hv (by omega) (by omega) (by omega)
                  rw [(par_is c).1, (par_is c).2, parS, hE]
                  first | rfl | (rw [if_pos rfl]; rfl) | (rw [if_neg (by decide)]; rfl)
                · have heT : eT c = 298 := by unfold eT; rw [hpT, hu2]; rw [if_neg (by omega)]
                  refine EW.region ?_
                  first | refine WL.move rfl rfl rfl ?_
                  first | refine WL.nilc rfl rfl rfl ?_
                  refine WL.field rfl rfl rfl (f115_1 q _) ?_
                  have htq34 := tq_41
                  obtain ⟨bvx34, tkx34⟩ := htq34
                  have blx34 := tkx34.bl
                  rw [decide_eq_false hsh2] at blx34
                  refine WL.load rfl rfl rfl (ldBo blx34 rfl) ?_
                  refine WL.done ?_
                  refine EW.on ?_
                  refine EW.cond_f rfl ?_
                  refine EW.skip ?_
                  refine EW.on ?_
                  refine EW.seq ?_
                  refine EW.seq ?_
                  by_cases htl2 : eT c < c.length
                  · refine EW.region ?_
                    first | refine WL.move rfl rfl rfl ?_
                    first | refine WL.nilc rfl rfl rfl ?_
                    refine WL.field rfl rfl rfl (f115_0 q _) ?_
                    have htq36 := tq_41
                    obtain ⟨bvy, tky⟩ := htq36
                    refine WL.load rfl rfl rfl (ldS tky.bl rfl) ?_
                    refine WL.len rfl rfl rfl (tky.hs.len _ _) ?_
                    refine WL.bin rfl rfl rfl rfl (int_gt_t (by rw [List.length_drop]; omega) _ _ _) ?_
                    refine WL.done ?_
                    refine EW.on ?_
                    refine EW.cond_t rfl ?_
                    refine EW.seq ?_
                    refine EW.region ?_
                    refine WL.buildN [] rfl rfl rfl (bd33 _) ?_
                    obtain ⟨w9, s9, b9, f9⟩ := Sg.st (s := Sg.z) br_41 Sg.z_ok Sg.z_ok
                    refine WL.store rfl rfl rfl s9 ?_
                    first | refine WL.assign rfl rfl rfl ?_
                    refine WL.done ?_
                    refine EW.on ?_
                    refine EW.ret ?_
                    refine pr_then ?_
                    refine EW.returnsCT Try.results50 rfl rfl b9 Try.underlying33 rfl (by simpa using i33 Sg.z_ok) ⟨?_, bfx l_41 (by omega) f9⟩
                    have hE : parE c = 11 := doc_tail h0 hv (by omega) (by omega) (by omega)
                    rw [(par_is c).1, (par_is c).2, parS, hE]
                    first | rfl | (rw [if_pos rfl]; rfl) | (rw [if_neg (by decide)]; rfl)
                  · refine EW.region ?_
                    first | refine WL.move rfl rfl rfl ?_
                    first | refine WL.nilc rfl rfl rfl ?_
                    refine WL.field rfl rfl rfl (f115_0 q _) ?_
                    have htq36 := tq_41
                    obtain ⟨bvy, tky⟩ := htq36
                    refine WL.load rfl rfl rfl (ldS tky.bl rfl) ?_
                    refine WL.len rfl rfl rfl (tky.hs.len _ _) ?_
                    refine WL.bin rfl rfl rfl rfl (int_gt_f (by rw [List.length_drop]; omega) _ _ _) ?_
                    refine WL.done ?_
                    refine EW.on ?_
                    refine EW.cond_f rfl ?_
                    refine EW.skip ?_
                    refine EW.on ?_
                    refine EW.seq ?_
                    have hgc : (Good (preS c) ∧ encD (preS c) = c) ∨ (Good (preS c) ∧ ¬ encD (preS c) = c) ∨ ¬ Good (preS c) := by
                      by_cases x1 : Good (preS c) <;> by_cases x2 : encD (preS c) = c <;> simp [x1, x2]
                    rcases hgc with ⟨hg, he⟩ | ⟨hg, he⟩ | hg
                    · have hlen : c.length = eT c := by omega
                      have hS : (⟨(tkC c 1 16), (tkC c 81 32), (tkC c 113 32), (tkC c 145 32), (tkC c 177 32), (tkC c 221 32), (tkC c 261 32), (numB (tkC c 209 4)), (numB (tkC c 213 4)), (numB (tkC c 253 4)), (numB (tkC c 293 4)), (numB (tkC c 257 4)), (numB (tkC c 217 4)), Hl.z, (tkC c 17 64)⟩ : Sg) = preS c := by
                        rw [pre_tk (by omega) hlen, hpT, show oT c = 261 from by unfold oT; rw [if_pos h74], if_pos h74, if_pos h74, if_pos h74, if_pos h86, if_pos h86, hu2, if_neg (by omega)]
                      have bpS : Blk wc41 p (preS c).cs 33 := by rw [← hS]; exact bp_41
                      have kS : (preS c).ok := by rw [← hS]; exact k_39
                      have hfin := doc_fin h0 hv (by omega) (by omega) hlen
                      refine EW.region ?_
                      refine WL.load rfl rfl rfl (Sg.ld bpS kS) ?_
                      refine WL.call [(preS c).v] enter47 rfl rfl rfl (rcheck_any _ kS _) ?_
                      rintro _ w38 ⟨rfl, e38⟩
                      rw [chkD, if_pos hg]
                      refine ⟨_, rfl, ?_⟩
                      have bp38 := bpS.on e38
                      have tq_42 := tq_41.below e38
                      have br_42 := br_41.on e38
                      have l_42 := bt l_41 e38
                      first | refine WL.assign rfl rfl rfl ?_
                      refine WL.done ?_
                      refine EW.on ?_
                      refine EW.seq ?_
                      refine EW.seq ?_
                      refine EW.ordB [(0, 0, 0), (1, 0, 0), (2, 0, 0), (3, 0, 1), (6, 0, 0), (7, 0, 1), (4, 1, 1), (5, 2, 0), (8, 0, 0), (9, 0, 0)] (by kernel_rfl) rfl (by kernel_rfl) ?_
                      simp only [opsZ, List.getD_cons_zero, List.getD_cons_succ]
                      first | refine ZE.move rfl rfl rfl rfl sz0 ?_
                      refine ZE.bin rfl rfl rfl rfl rfl sz0 (fun W => int_eq_t rfl W _ _) ?_
                      first | refine ZE.move rfl rfl rfl rfl sz0 ?_
                      refine ZE.load rfl rfl rfl rfl sz1 (fun W hW => Sg.ld (bp38.on (sb_of hW)) kS) ?_
                      refine ZE.move rfl rfl rfl rfl sz0 ?_
                      refine ZE.conv rfl rfl rfl rfl sz1 (fun W hW => ((hb.below l_42).below (sb_of hW)).convert) ?_
                      refine ZE.callR [(preS c).v] (fun v W => Ob W w38.heap.size v (encD (preS c)) ∧ Below w38.heap.size w38 W) enter65 rfl rfl rfl (fun _ _ h => .inr h.2) (fun W hW => (written_any _ kS W).mono fun e w' ⟨v, g1, g2, g3⟩ => ⟨v, g1, g2.lower hW.size, bt hW g3⟩) ?_
                      rintro vo ⟨_, _⟩
                      refine ZE.conv rfl rfl rfl rfl szC (fun W hW => hW.1.has.convert) ?_
                      refine ZE.bin rfl rfl rfl rfl rfl sz0 (fun W => (str_ne_d _ _ W _ _).trans (by rw [decide_eq_false (show ¬ ¬ encD (preS c) = c from fun h => h he)])) ?_
                      refine ZE.pick rfl rfl rfl rfl rfl sz0 ?_
                      intro w39 h39
                      have e39 := h39.2
                      have bp_43 := bp38.on e39
                      have tq_43 := tq_42.below e39
                      have br_43 := br_42.on e39
                      have l_43 := bt l_42 e39
                      refine EW.on ?_
                      refine EW.cond_f rfl ?_
                      refine EW.skip ?_
                      refine EW.on ?_
                      refine EW.seq ?_
                      refine EW.seq ?_
                      refine EW.region ?_
                      first | refine WL.move rfl rfl rfl ?_
                      refine WL.bin rfl rfl rfl rfl (int_ne_f rfl _ _ _) ?_
                      refine WL.done ?_
                      refine EW.on ?_
                      refine EW.cond_f rfl ?_
                      refine EW.skip ?_
                      refine EW.on ?_
                      refine EW.seq ?_
                      refine EW.region ?_
                      refine WL.load rfl rfl rfl (Sg.ld bp_43 kS) ?_
                      obtain ⟨w9, s9, b9, f9⟩ := Sg.st (s := (preS c)) br_43 Sg.z_ok kS
                      refine WL.store rfl rfl rfl s9 ?_
                      first | refine WL.assign rfl rfl rfl ?_
                      refine WL.done ?_
                      refine EW.on ?_
                      refine EW.ret ?_
                      refine EW.returnsCT Try.results50 rfl rfl b9 Try.underlying33 rfl (by simpa using i33 kS) ⟨?_, bfx l_43 (by omega) f9⟩
                      have hE : parE c = 0 := by rw [hfin, if_pos ⟨hg, he⟩]
                      rw [(par_is c).1, (par_is c).2, parS, hE]
                      first | rfl | (rw [if_pos rfl]; rfl) | (rw [if_neg (by decide)]; rfl)
                    · have hlen : c.length = eT c := by omega
                      have hS : (⟨(tkC c 1 16), (tkC c 81 32), (tkC c 113 32), (tkC c 145 32), (tkC c 177 32), (tkC c 221 32), (tkC c 261 32), (numB (tkC c 209 4)), (numB (tkC c 213 4)), (numB (tkC c 253 4)), (numB (tkC c 293 4)), (numB (tkC c 257 4)), (numB (tkC c 217 4)), Hl.z, (tkC c 17 64)⟩ : Sg) = preS c := by
                        rw [pre_tk (by omega) hlen, hpT, show oT c = 261 from by unfold oT; rw [if_pos h74], if_pos h74, if_pos h74, if_pos h74, if_pos h86, if_pos h86, hu2, if_neg (by omega)]
                      have bpS : Blk wc41 p (preS c).cs 33 := by rw [← hS]; exact bp_41
                      have kS : (preS c).ok := by rw [← hS]; exact k_39
                      have hfin := doc_fin h0 hv (by omega) (by omega) hlen
                      refine EW.region ?_
                      refine WL.load rfl rfl rfl (Sg.ld bpS kS) ?_
                      refine WL.call [(preS c).v] enter47 rfl rfl rfl (rcheck_any _ kS _) ?_
                      rintro _ w38 ⟨rfl, e38⟩
                      rw [chkD, if_pos hg]
                      refine ⟨_, rfl, ?_⟩
                      have bp38 := bpS.on e38
                      have tq_42 := tq_41.below e38
                      have br_42 := br_41.on e38
                      have l_42 := bt l_41 e38
                      first | refine WL.assign rfl rfl rfl ?_
                      refine WL.done ?_
                      refine EW.on ?_
                      refine EW.seq ?_
                      refine EW.seq ?_
                      refine EW.ordB [(0, 0, 0), (1, 0, 0), (2, 0, 0), (3, 0, 1), (6, 0, 0), (7, 0, 1), (4, 1, 1), (5, 2, 0), (8, 0, 0), (9, 0, 0)] (by kernel_rfl) rfl (by kernel_rfl) ?_
                      simp only [opsZ, List.getD_cons_zero, List.getD_cons_succ]
                      first | refine ZE.move rfl rfl rfl rfl sz0 ?_
                      refine ZE.bin rfl rfl rfl rfl rfl sz0 (fun W => int_eq_t rfl W _ _) ?_
                      first | refine ZE.move rfl rfl rfl rfl sz0 ?_
                      refine ZE.load rfl rfl rfl rfl sz1 (fun W hW => Sg.ld (bp38.on (sb_of hW)) kS) ?_
                      refine ZE.move rfl rfl rfl rfl sz0 ?_
                      refine ZE.conv rfl rfl rfl rfl sz1 (fun W hW => ((hb.below l_42).below (sb_of hW)).convert) ?_
                      refine ZE.callR [(preS c).v] (fun v W => Ob W w38.heap.size v (encD (preS c)) ∧ Below w38.heap.size w38 W) enter65 rfl rfl rfl (fun _ _ h => .inr h.2) (fun W hW => (written_any _ kS W).mono fun e w' ⟨v, g1, g2, g3⟩ => ⟨v, g1, g2.lower hW.size, bt hW g3⟩) ?_
                      rintro vo ⟨_, _⟩
                      refine ZE.conv rfl rfl rfl rfl szC (fun W hW => hW.1.has.convert) ?_
                      refine ZE.bin rfl rfl rfl rfl rfl sz0 (fun W => (str_ne_d _ _ W _ _).trans (by rw [decide_eq_true he])) ?_
                      refine ZE.pick rfl rfl rfl rfl rfl sz0 ?_
                      intro w39 h39
                      have e39 := h39.2
                      have bp_43 := bp38.on e39
                      have tq_43 := tq_42.below e39
                      have br_43 := br_42.on e39
                      have l_43 := bt l_42 e39
                      refine EW.on ?_
                      refine EW.cond_t rfl ?_
                      refine EW.region ?_
                      first | refine WL.assign rfl rfl rfl ?_
                      refine WL.done ?_
                      refine EW.on ?_
                      refine EW.seq ?_
                      refine EW.seq ?_
                      refine EW.region ?_
                      first | refine WL.move rfl rfl rfl ?_
                      refine WL.bin rfl rfl rfl rfl (int_ne_t (by decide) _ _ _) ?_
                      refine WL.done ?_
                      refine EW.on ?_
                      refine EW.cond_t rfl ?_
                      refine EW.seq ?_
                      refine EW.region ?_
                      refine WL.buildN [] rfl rfl rfl (bd33 _) ?_
                      first | refine WL.move rfl rfl rfl ?_
                      obtain ⟨w9, s9, b9, f9⟩ := Sg.st (s := Sg.z) br_43 Sg.z_ok Sg.z_ok
                      refine WL.store rfl rfl rfl s9 ?_
                      first | refine WL.assign rfl rfl rfl ?_
                      refine WL.done ?_
                      refine EW.on ?_
                      refine EW.ret ?_
                      refine pr_then ?_
                      refine EW.returnsCT Try.results50 rfl rfl b9 Try.underlying33 rfl (by simpa using i33 Sg.z_ok) ⟨?_, bfx l_43 (by omega) f9⟩
                      have hE : parE c = 180 := by rw [hfin, if_neg (fun h => he h.2)]
                      rw [(par_is c).1, (par_is c).2, parS, hE]
                      first | rfl | (rw [if_pos rfl]; rfl) | (rw [if_neg (by decide)]; rfl)
                    · have hlen : c.length = eT c := by omega
                      have hS : (⟨(tkC c 1 16), (tkC c 81 32), (tkC c 113 32), (tkC c 145 32), (tkC c 177 32), (tkC c 221 32), (tkC c 261 32), (numB (tkC c 209 4)), (numB (tkC c 213 4)), (numB (tkC c 253 4)), (numB (tkC c 293 4)), (numB (tkC c 257 4)), (numB (tkC c 217 4)), Hl.z, (tkC c 17 64)⟩ : Sg) = preS c := by
                        rw [pre_tk (by omega) hlen, hpT, show oT c = 261 from by unfold oT; rw [if_pos h74], if_pos h74, if_pos h74, if_pos h74, if_pos h86, if_pos h86, hu2, if_neg (by omega)]
                      have bpS : Blk wc41 p (preS c).cs 33 := by rw [← hS]; exact bp_41
                      have kS : (preS c).ok := by rw [← hS]; exact k_39
                      have hfin := doc_fin h0 hv (by omega) (by omega) hlen
                      refine EW.region ?_
                      refine WL.load rfl rfl rfl (Sg.ld bpS kS) ?_
                      refine WL.call [(preS c).v] enter47 rfl rfl rfl (rcheck_any _ kS _) ?_
                      rintro _ w38 ⟨rfl, e38⟩
                      rw [chkD, if_neg hg]
                      refine ⟨_, rfl, ?_⟩
                      have bp38 := bpS.on e38
                      have tq_42 := tq_41.below e38
                      have br_42 := br_41.on e38
                      have l_42 := bt l_41 e38
                      first | refine WL.assign rfl rfl rfl ?_
                      refine WL.done ?_
                      refine EW.on ?_
                      refine EW.seq ?_
                      refine EW.seq ?_
                      refine EW.ordB [(0, 0, 0), (1, 0, 0), (2, 0, 0), (3, 0, 1), (4, 0, 0), (5, 2, 0), (6, 0, 0), (7, 0, 1), (8, 0, 0), (9, 0, 0)] (by kernel_rfl) rfl (by kernel_rfl) ?_
                      simp only [opsZ, List.getD_cons_zero, List.getD_cons_succ]
                      first | refine ZE.move rfl rfl rfl rfl sz0 ?_
                      refine ZE.bin rfl rfl rfl rfl rfl sz0 (fun W => int_eq_f (by decide) W _ _) ?_
                      first | refine ZE.move rfl rfl rfl rfl sz0 ?_
                      refine ZE.skip rfl rfl rfl sz1 ?_
                      refine ZE.skip rfl rfl rfl sz0 ?_
                      refine ZE.skip rfl rfl rfl szC ?_
                      refine ZE.skip rfl rfl rfl sz0 ?_
                      refine ZE.skip rfl rfl rfl sz1 ?_
                      refine ZE.skip rfl rfl rfl sz0 ?_
                      refine ZE.pick rfl rfl rfl rfl rfl sz0 ?_
                      intro w39 e39
                      have bp_43 := bp38.on e39
                      have tq_43 := tq_42.below e39
                      have br_43 := br_42.on e39
                      have l_43 := bt l_42 e39
                      refine EW.on ?_
                      refine EW.cond_f rfl ?_
                      refine EW.skip ?_
                      refine EW.on ?_
                      refine EW.seq ?_
                      refine EW.seq ?_
                      refine EW.region ?_
                      first | refine WL.move rfl rfl rfl ?_
                      refine WL.bin rfl rfl rfl rfl (int_ne_t (by decide) _ _ _) ?_
                      refine WL.done ?_
                      refine EW.on ?_
                      refine EW.cond_t rfl ?_
                      refine EW.seq ?_
                      refine EW.region ?_
                      refine WL.buildN [] rfl rfl rfl (bd33 _) ?_
                      first | refine WL.move rfl rfl rfl ?_
                      obtain ⟨w9, s9, b9, f9⟩ := Sg.st (s := Sg.z) br_43 Sg.z_ok Sg.z_ok
                      refine WL.store rfl rfl rfl s9 ?_
                      first | refine WL.assign rfl rfl rfl ?_
                      refine WL.done ?_
                      refine EW.on ?_
                      refine EW.ret ?_
                      refine pr_then ?_
                      refine EW.returnsCT Try.results50 rfl rfl b9 Try.underlying33 rfl (by simpa using i33 Sg.z_ok) ⟨?_, bfx l_43 (by omega) f9⟩
                      have hE : parE c = 180 := by rw [hfin, if_neg (fun h => hg h.1)]
                      rw [(par_is c).1, (par_is c).2, parS, hE]
                      first | rfl | (rw [if_pos rfl]; rfl) | (rw [if_neg (by decide)]; rfl)
              · have hmm : numB (tkC c (pT c) 1) = u.toNat := by rw [hpT]; exact hu2
                refine EW.region ?_
                first | refine WL.move rfl rfl rfl ?_
                refine WL.bin rfl rfl rfl rfl (bgt_f (by omega) _ _ _) ?_
                refine WL.done ?_
                refine EW.on ?_
                refine EW.cond_f rfl ?_
                refine EW.skip ?_
                refine EW.on ?_
                refine EW.seq ?_
                refine EW.seq ?_
                refine EW.region ?_
                first | refine WL.move rfl rfl rfl ?_
                refine WL.bin rfl rfl rfl rfl (beq_t (by omega) _ _ _) ?_
                refine WL.done ?_
                refine EW.on ?_
                refine EW.cond_t rfl ?_
                refine EW.seq ?_
                refine EW.region ?_
                first | refine WL.move rfl rfl rfl ?_
                have lsz42 := l_41.size
                refine WL.call [.pointer (some ⟨q, 0, none⟩)] enter67 rfl rfl rfl (tq_key B q 298 c _ tq_41 (by omega) hl) ?_
                rintro _ wc42 ⟨rfl, tq42', fc42⟩
                refine ⟨_, rfl, ?_⟩
                have tq_42 : Tq wc42 B q c 330 := tq42'
                have bp_42 := bp_41.fx fc42 (fun e => hqp e.symm)
                have br_42 := br_41.fx fc42 (fun e => by omega)
                have l_42 := bfx l_41 (by omega) fc42
                have lc42 := fc42.size
                first | refine WL.move rfl rfl rfl ?_
                have lsz43 := l_42.size
                refine WL.call [.pointer (some ⟨q, 0, none⟩)] enter68 rfl rfl rfl (tq_four B q 330 c _ tq_42 (by omega) hl) ?_
                rintro _ wc43 ⟨rfl, tq43', fc43⟩
                refine ⟨_, rfl, ?_⟩
                have tq_43 : Tq wc43 B q c 334 := tq43'
                have bp_43 := bp_42.fx fc43 (fun e => hqp e.symm)
                have br_43 := br_42.fx fc43 (fun e => by omega)
                have l_43 := bfx l_42 (by omega) fc43
                have lc43 := fc43.size
                first | refine WL.field rfl rfl rfl (f33_12 p _) ?_
                first | refine WL.field rfl rfl rfl (f30_1 p 214 _) ?_
                obtain ⟨w_44, s_44, bb_44, fx_44⟩ := Sg.st_honce bp_43 k_39 (x := (tkC c 298 32)) (tkC_len _ _ _)
                have bc_44 : Blk w_44 p (Sg.cs (⟨(tkC c 1 16), (tkC c 81 32), (tkC c 113 32), (tkC c 145 32), (tkC c 177 32), (tkC c 221 32), (tkC c 261 32), (numB (tkC c 209 4)), (numB (tkC c 213 4)), (numB (tkC c 253 4)), (numB (tkC c 293 4)), (numB (tkC c 257 4)), (numB (tkC c 217 4)), (⟨z32, (tkC c 298 32), 0⟩ : Hl), (tkC c 17 64)⟩ : Sg)) 33 := bb_44
                have k_44 : Sg.ok (⟨(tkC c 1 16), (tkC c 81 32), (tkC c 113 32), (tkC c 145 32), (tkC c 177 32), (tkC c 221 32), (tkC c 261 32), (numB (tkC c 209 4)), (numB (tkC c 213 4)), (numB (tkC c 253 4)), (numB (tkC c 293 4)), (numB (tkC c 257 4)), (numB (tkC c 217 4)), (⟨z32, (tkC c 298 32), 0⟩ : Hl), (tkC c 17 64)⟩ : Sg) := k_39.s_hl (x := (⟨z32, (tkC c 298 32), 0⟩ : Hl)) ⟨k_39.hl.i, (tkC_len _ _ _), k_39.hl.p⟩
                clear bb_44
                refine WL.store rfl rfl rfl s_44 ?_
                have tq_45 := tq_43.fx fx_44 (fun e => hqp e) (fun k hk => by have hk : k = p := hk; omega)
                have br_45 := br_43.fx fx_44 (fun e => by omega)
                have l_45 := bfx l_43 (by omega) fx_44
                first | refine WL.field rfl rfl rfl (f33_12 p _) ?_
                first | refine WL.field rfl rfl rfl (f30_2 p 214 _) ?_
                obtain ⟨w_46, s_46, bb_46, fx_46⟩ := Sg.st_hpre bc_44 k_44 ((numB (tkC c 330 4)))
                have bc_46 : Blk w_46 p (Sg.cs (⟨(tkC c 1 16), (tkC c 81 32), (tkC c 113 32), (tkC c 145 32), (tkC c 177 32), (tkC c 221 32), (tkC c 261 32), (numB (tkC c 209 4)), (numB (tkC c 213 4)), (numB (tkC c 253 4)), (numB (tkC c 293 4)), (numB (tkC c 257 4)), (numB (tkC c 217 4)), (⟨z32, (tkC c 298 32), (numB (tkC c 330 4))⟩ : Hl), (tkC c 17 64)⟩ : Sg)) 33 := bb_46
                have k_46 : Sg.ok (⟨(tkC c 1 16), (tkC c 81 32), (tkC c 113 32), (tkC c 145 32), (tkC c 177 32), (tkC c 221 32), (tkC c 261 32), (numB (tkC c 209 4)), (numB (tkC c 213 4)), (numB (tkC c 253 4)), (numB (tkC c 293 4)), (numB (tkC c 257 4)), (numB (tkC c 217 4)), (⟨z32, (tkC c 298 32), (numB (tkC c 330 4))⟩ : Hl), (tkC c 17 64)⟩ : Sg) := k_44.s_hl (x := (⟨z32, (tkC c 298 32), (numB (tkC c 330 4))⟩ : Hl)) ⟨k_44.hl.i, k_44.hl.o, (numB_32 _ (Nat.le_of_eq (tkC_len _ _ _)))⟩
                clear bb_46
                refine WL.store rfl rfl rfl s_46 ?_
                have tq_47 := tq_45.fx fx_46 (fun e => hqp e) (fun k hk => by have hk : k = p := hk; omega)
                have br_47 := br_45.fx fx_46 (fun e => by omega)
                have l_47 := bfx l_45 (by omega) fx_46
                refine WL.done ?_
                refine EW.on ?_
                refine EW.seq ?_
                obtain ⟨s0, hs0⟩ : ∃ s0, (⟨(tkC c 1 16), (tkC c 81 32), (tkC c 113 32), (tkC c 145 32), (tkC c 177 32), (tkC c 221 32), (tkC c 261 32), (numB (tkC c 209 4)), (numB (tkC c 213 4)), (numB (tkC c 253 4)), (numB (tkC c 293 4)), (numB (tkC c 257 4)), (numB (tkC c 217 4)), (⟨z32, (tkC c 298 32), (numB (tkC c 330 4))⟩ : Hl), (tkC c 17 64)⟩ : Sg) = s0 := ⟨_, rfl⟩
                have bs0 := bc_46
                have ks0 := k_46
                rw [hs0] at bs0 ks0
                have hid0 : s0.hl.id = z32 := by rw [← hs0]
                refine EW.region ?_
                first | refine WL.assign rfl rfl rfl ?_
                refine WL.done ?_
                refine EW.on ?_
                refine EW.block ?_
                refine EW.loop (d2E vb qr q p) (D2I s0 (s0.bind.take 32) p w_46) (fun t => 32 - t) 0 [0, 2, 4, 5, 10] rfl ⟨Nat.zero_le _, by
                  rw [ouB_zero]
                  have e : ({ s0 with hl := { s0.hl with id := List.replicate 32 0 } } : Sg) = s0 := by
                    have e2 : s0.hl.id = List.replicate 32 0 := hid0
                    rw [← e2]
                  rw [e]; exact bs0, Fx.refl _ _⟩ ?_
                rintro t wi ⟨htl, bi, fxi⟩
                show EW _ _ _ _ [(0, vb), (2, .pointer (some ⟨qr, 0, none⟩)), (4, .pointer (some ⟨q, 0, none⟩)), (5, .pointer (some ⟨p, 0, none⟩)), (10, .int .i64 (t : Int))] _
                refine EW.seq ?_
                refine EW.seq ?_
                refine EW.region ?_
                first | refine WL.move rfl rfl rfl ?_
                refine WL.bin rfl rfl rfl rfl (int_lt_d _ _ _ _ _) ?_
                refine WL.done ?_
                refine EW.on ?_
                refine EW.cond_d rfl (fun h116 => ?_) (fun h116 => ?_)
                · refine EW.skip ?_
                  refine EW.on ?_
                  refine EW.seq ?_
                  refine EW.block ?_
                  refine EW.region ?_
                  first | refine WL.move rfl rfl rfl ?_
                  first | refine WL.move rfl rfl rfl ?_
                  refine WL.field rfl rfl rfl (f33_13 p _) ?_
                  have hlt : t < 32 := by omega
                  have ki : Sg.ok { s0 with hl := { s0.hl with id := ouB (s0.bind.take 32) 32 t } } := ks0.s_hl ⟨ouB_len htl, ks0.hl.o, ks0.hl.p⟩
                  refine WL.index rfl rfl rfl rfl (ix31 p 279 t (by omega) _) ?_
                  refine WL.load rfl rfl rfl (Sg.ldI_bind (i := t) bi ki (by omega)) ?_
                  refine WL.field rfl rfl rfl (f33_12 p _) ?_
                  refine WL.field rfl rfl rfl (f30_0 p 214 _) ?_
                  refine WL.index rfl rfl rfl rfl (ix25 p (214 + 0) t hlt _) ?_
                  obtain ⟨w33, s33, b33, f33⟩ := Sg.stI_hid (i := t) bi ki hlt (s0.bind.getD t 0)
                  refine WL.store rfl rfl rfl s33 ?_
                  have e33 : (ouB (s0.bind.take 32) 32 t).set t (s0.bind.getD t 0) = ouB (s0.bind.take 32) 32 (t + 1) := ouB_step hlt (by
                    rw [tkB_self (takeB ks0.bind), List.getElem?_take_of_lt hlt, List.getD_eq_getElem?_getD, List.getElem?_eq_getElem (by rw [ks0.bind]; omega)]
                    rfl)
                  have b33 : Blk w33 p (Sg.cs { s0 with hl := { s0.hl with id := ouB (s0.bind.take 32) 32 (t + 1) } }) 33 := by rw [← e33]; exact b33
                  refine WL.done ?_
                  refine pn_block ?_
                  refine EW.on ?_
                  refine EW.region ?_
                  first | refine WL.move rfl rfl rfl ?_
                  refine WL.bin rfl rfl rfl rfl (int_add (c := ((t + 1 : Nat) : Int)) (by rw [IntKind.wrap_i64]; omega) _ _ _) ?_
                  first | refine WL.assign rfl rfl rfl ?_
                  refine WL.done ?_
                  exact EW.again (E := d2E vb qr q p) (R := D2I s0 (s0.bind.take 32) p w_46) (m := fun t => 32 - t) (x := t) (t + 1) [0, 2, 4, 5, 10] rfl ⟨by omega, b33, fxi.and f33⟩ (by show 32 - (t + 1) < 32 - t; omega)
                · refine EW.exit ?_
                  refine px_then ?_
                  refine px_then ?_
                  refine px_block ?_
                  refine EW.on ?_
                  refine EW.seq ?_
                  refine EW.seq ?_
                  by_cases hsh2 : c.length < 334
                  · have heT : eT c = 334 := by unfold eT; rw [hpT, hu2]; rw [if_pos (by omega)]
                    have hte : t = 32 := by omega
                    have ble_48 : Blk wi p (Sg.cs { s0 with hl := { s0.hl with id := s0.bind.take 32 } }) 33 := by
                      have h := bi
                      rw [hte, ouB_all, tkB_self (takeB ks0.bind)] at h
                      exact h
                    have kle_48 : Sg.ok { s0 with hl := { s0.hl with id := s0.bind.take 32 } } := ks0.s_hl ⟨takeB ks0.bind, ks0.hl.o, ks0.hl.p⟩
                    have tq_49 := tq_47.fx fxi (fun e => hqp e) (fun k hk => by have hk : k = p := hk; omega)
                    have br_49 := br_47.fx fxi (fun e => by omega)
                    have l_49 := bfx l_47 (by omega) fxi
                    rw [← hs0] at ble_48 kle_48
                    refine EW.region ?_
                    first | refine WL.move rfl rfl rfl ?_
                    first | refine WL.nilc rfl rfl rfl ?_
                    refine WL.field rfl rfl rfl (f115_1 q _) ?_
                    have htq34 := tq_49
                    obtain ⟨bvx34, tkx34⟩ := htq34
                    have blx34 := tkx34.bl
                    rw [decide_eq_true hsh2] at blx34
                    refine WL.load rfl rfl rfl (ldBo blx34 rfl) ?_
                    refine WL.done ?_
                    refine EW.on ?_
                    refine EW.cond_t rfl ?_
                    refine EW.seq ?_
                    refine EW.region ?_
                    refine WL.buildN [] rfl rfl rfl (bd33 _) ?_
                    obtain ⟨w9, s9, b9, f9⟩ := Sg.st (s := Sg.z) br_49 Sg.z_ok Sg.z_ok
                    refine WL.store rfl rfl rfl s9 ?_
                    first | refine WL.assign rfl rfl rfl ?_
                    refine WL.done ?_
                    refine EW.on ?_
                    refine EW.ret ?_
                    refine pr_then ?_
                    refine EW.returnsCT Try.results50 rfl rfl b9 Try.underlying33 rfl (by simpa using i33 Sg.z_ok) ⟨?_, bfx l_49 (by omega) f9⟩
                    have hE : parE c = 10 := doc_short2 h0 hv (by omega) (by omega) (by omega)
                    rw [(par_is c).1, (par_is c).2, parS, hE]
                    first | rfl | (rw [if_pos rfl]; rfl) | (rw [if_neg (by decide)]; rfl)
                  · have heT : eT c = 334 := by unfold eT; rw [hpT, hu2]; rw [if_pos (by omega)]
                    have hte : t = 32 := by omega
                    have ble_48 : Blk wi p (Sg.cs { s0 with hl := { s0.hl with id := s0.bind.take 32 } }) 33 := by
                      have h := bi
                      rw [hte, ouB_all, tkB_self (takeB ks0.bind)] at h
                      exact h
                    have kle_48 : Sg.ok { s0 with hl := { s0.hl with id := s0.bind.take 32 } } := ks0.s_hl ⟨takeB ks0.bind, ks0.hl.o, ks0.hl.p⟩
                    have tq_49 := tq_47.fx fxi (fun e => hqp e) (fun k hk => by have hk : k = p := hk; omega)
                    have br_49 := br_47.fx fxi (fun e => by omega)
                    have l_49 := bfx l_47 (by omega) fxi
                    rw [← hs0] at ble_48 kle_48
                    refine EW.region ?_
                    first | refine WL.move rfl rfl rfl ?_
                    first | refine WL.nilc rfl rfl rfl ?_
                    refine WL.field rfl rfl rfl (f115_1 q _) ?_
                    have htq34 := tq_49
                    obtain ⟨bvx34, tkx34⟩ := htq34
                    have blx34 := tkx34.bl
                    rw [decide_eq_false hsh2] at blx34
                    refine WL.load rfl rfl rfl (ldBo blx34 rfl) ?_
                    refine WL.done ?_
                    refine EW.on ?_
                    refine EW.cond_f rfl ?_
                    refine EW.skip ?_
                    refine EW.on ?_
                    refine EW.seq ?_
                    refine EW.seq ?_
                    by_cases htl2 : eT c < c.length
                    · refine EW.region ?_
                      first | refine WL.move rfl rfl rfl ?_
                      first | refine WL.nilc rfl rfl rfl ?_
                      refine WL.field rfl rfl rfl (f115_0 q _) ?_
                      have htq36 := tq_49
                      obtain ⟨bvy, tky⟩ := htq36
                      refine WL.load rfl rfl rfl (ldS tky.bl rfl) ?_
                      refine WL.len rfl rfl rfl (tky.hs.len _ _) ?_
                      refine WL.bin rfl rfl rfl rfl (int_gt_t (by rw [List.length_drop]; omega) _ _ _) ?_
                      refine WL.done ?_
                      refine EW.on ?_
                      refine EW.cond_t rfl ?_
                      refine EW.seq ?_
                      refine EW.region ?_
                      refine WL.buildN [] rfl rfl rfl (bd33 _) ?_
                      obtain ⟨w9, s9, b9, f9⟩ := Sg.st (s := Sg.z) br_49 Sg.z_ok Sg.z_ok
                      refine WL.store rfl rfl rfl s9 ?_
                      first | refine WL.assign rfl rfl rfl ?_
                      refine WL.done ?_
                      refine EW.on ?_
                      refine EW.ret ?_
                      refine pr_then ?_
                      refine EW.returnsCT Try.results50 rfl rfl b9 Try.underlying33 rfl (by simpa using i33 Sg.z_ok) ⟨?_, bfx l_49 (by omega) f9⟩
                      have hE : parE c = 11 := doc_tail h0 hv (by omega) (by omega) (by omega)
                      rw [(par_is c).1, (par_is c).2, parS, hE]
                      first | rfl | (rw [if_pos rfl]; rfl) | (rw [if_neg (by decide)]; rfl)
                    · refine EW.region ?_
                      first | refine WL.move rfl rfl rfl ?_
                      first | refine WL.nilc rfl rfl rfl ?_
                      refine WL.field rfl rfl rfl (f115_0 q _) ?_
                      have htq36 := tq_49
                      obtain ⟨bvy, tky⟩ := htq36
                      refine WL.load rfl rfl rfl (ldS tky.bl rfl) ?_
                      refine WL.len rfl rfl rfl (tky.hs.len _ _) ?_
                      refine WL.bin rfl rfl rfl rfl (int_gt_f (by rw [List.length_drop]; omega) _ _ _) ?_
                      refine WL.done ?_
                      refine EW.on ?_
                      refine EW.cond_f rfl ?_
                      refine EW.skip ?_
                      refine EW.on ?_
                      refine EW.seq ?_
                      have hgc : (Good (preS c) ∧ encD (preS c) = c) ∨ (Good (preS c) ∧ ¬ encD (preS c) = c) ∨ ¬ Good (preS c) := by
                        by_cases x1 : Good (preS c) <;> by_cases x2 : encD (preS c) = c <;> simp [x1, x2]
                      rcases hgc with ⟨hg, he⟩ | ⟨hg, he⟩ | hg
                      · have hlen : c.length = eT c := by omega
                        have hS : (⟨(tkC c 1 16), (tkC c 81 32), (tkC c 113 32), (tkC c 145 32), (tkC c 177 32), (tkC c 221 32), (tkC c 261 32), (numB (tkC c 209 4)), (numB (tkC c 213 4)), (numB (tkC c 253 4)), (numB (tkC c 293 4)), (numB (tkC c 257 4)), (numB (tkC c 217 4)), (⟨((tkC c 17 64).take 32), (tkC c 298 32), (numB (tkC c 330 4))⟩ : Hl), (tkC c 17 64)⟩ : Sg) = preS c := by
                          rw [pre_tk (by omega) hlen, hpT, show oT c = 261 from by unfold oT; rw [if_pos h74], if_pos h74, if_pos h74, if_pos h74, if_pos h86, if_pos h86, hu2, if_pos (by omega)]
                        have bpS : Blk wi p (preS c).cs 33 := by rw [← hS]; exact ble_48
                        have kS : (preS c).ok := by rw [← hS]; exact kle_48
                        have hfin := doc_fin h0 hv (by omega) (by omega) hlen
                        refine EW.region ?_
                        refine WL.load rfl rfl rfl (Sg.ld bpS kS) ?_
                        refine WL.call [(preS c).v] enter47 rfl rfl rfl (rcheck_any _ kS _) ?_
                        rintro _ w38 ⟨rfl, e38⟩
                        rw [chkD, if_pos hg]
                        refine ⟨_, rfl, ?_⟩
                        have bp38 := bpS.on e38
                        have tq_50 := tq_49.below e38
                        have br_50 := br_49.on e38
                        have l_50 := bt l_49 e38
                        first | refine WL.assign rfl rfl rfl ?_
                        refine WL.done ?_
                        refine EW.on ?_
                        refine EW.seq ?_
                        refine EW.seq ?_
                        refine EW.ordB [(0, 0, 0), (1, 0, 0), (2, 0, 0), (3, 0, 1), (6, 0, 0), (7, 0, 1), (4, 1, 1), (5, 2, 0), (8, 0, 0), (9, 0, 0)] (by kernel_rfl) rfl (by kernel_rfl) ?_
                        simp only [opsZ, List.getD_cons_zero, List.getD_cons_succ]
                        first | refine ZE.move rfl rfl rfl rfl sz0 ?_
                        refine ZE.bin rfl rfl rfl rfl rfl sz0 (fun W => int_eq_t rfl W _ _) ?_
                        first | refine ZE.move rfl rfl rfl rfl sz0 ?_
                        refine ZE.load rfl rfl rfl rfl sz1 (fun W hW => Sg.ld (bp38.on (sb_of hW)) kS) ?_
                        refine ZE.move rfl rfl rfl rfl sz0 ?_
                        refine ZE.conv rfl rfl rfl rfl sz1 (fun W hW => ((hb.below l_50).below (sb_of hW)).convert) ?_
                        refine ZE.callR [(preS c).v] (fun v W => Ob W w38.heap.size v (encD (preS c)) ∧ Below w38.heap.size w38 W) enter65 rfl rfl rfl (fun _ _ h => .inr h.2) (fun W hW => (written_any _ kS W).mono fun e w' ⟨v, g1, g2, g3⟩ => ⟨v, g1, g2.lower hW.size, bt hW g3⟩) ?_
                        rintro vo ⟨_, _⟩
                        refine ZE.conv rfl rfl rfl rfl szC (fun W hW => hW.1.has.convert) ?_
                        refine ZE.bin rfl rfl rfl rfl rfl sz0 (fun W => (str_ne_d _ _ W _ _).trans (by rw [decide_eq_false (show ¬ ¬ encD (preS c) = c from fun h => h he)])) ?_
                        refine ZE.pick rfl rfl rfl rfl rfl sz0 ?_
                        intro w39 h39
                        have e39 := h39.2
                        have bp_51 := bp38.on e39
                        have tq_51 := tq_50.below e39
                        have br_51 := br_50.on e39
                        have l_51 := bt l_50 e39
                        refine EW.on ?_
                        refine EW.cond_f rfl ?_
                        refine EW.skip ?_
                        refine EW.on ?_
                        refine EW.seq ?_
                        refine EW.seq ?_
                        refine EW.region ?_
                        first | refine WL.move rfl rfl rfl ?_
                        refine WL.bin rfl rfl rfl rfl (int_ne_f rfl _ _ _) ?_
                        refine WL.done ?_
                        refine EW.on ?_
                        refine EW.cond_f rfl ?_
                        refine EW.skip ?_
                        refine EW.on ?_
                        refine EW.seq ?_
                        refine EW.region ?_
                        refine WL.load rfl rfl rfl (Sg.ld bp_51 kS) ?_
                        obtain ⟨w9, s9, b9, f9⟩ := Sg.st (s := (preS c)) br_51 Sg.z_ok kS
                        refine WL.store rfl rfl rfl s9 ?_
                        first | refine WL.assign rfl rfl rfl ?_
                        refine WL.done ?_
                        refine EW.on ?_
                        refine EW.ret ?_
                        refine EW.returnsCT Try.results50 rfl rfl b9 Try.underlying33 rfl (by simpa using i33 kS) ⟨?_, bfx l_51 (by omega) f9⟩
                        have hE : parE c = 0 := by rw [hfin, if_pos ⟨hg, he⟩]
                        rw [(par_is c).1, (par_is c).2, parS, hE]
                        first | rfl | (rw [if_pos rfl]; rfl) | (rw [if_neg (by decide)]; rfl)
                      · have hlen : c.length = eT c := by omega
                        have hS : (⟨(tkC c 1 16), (tkC c 81 32), (tkC c 113 32), (tkC c 145 32), (tkC c 177 32), (tkC c 221 32), (tkC c 261 32), (numB (tkC c 209 4)), (numB (tkC c 213 4)), (numB (tkC c 253 4)), (numB (tkC c 293 4)), (numB (tkC c 257 4)), (numB (tkC c 217 4)), (⟨((tkC c 17 64).take 32), (tkC c 298 32), (numB (tkC c 330 4))⟩ : Hl), (tkC c 17 64)⟩ : Sg) = preS c := by
                          rw [pre_tk (by omega) hlen, hpT, show oT c = 261 from by unfold oT; rw [if_pos h74], if_pos h74, if_pos h74, if_pos h74, if_pos h86, if_pos h86, hu2, if_pos (by omega)]
                        have bpS : Blk wi p (preS c).cs 33 := by rw [← hS]; exact ble_48
                        have kS : (preS c).ok := by rw [← hS]; exact kle_48
                        have hfin := doc_fin h0 hv (by omega) (by omega) hlen
                        refine EW.region ?_
                        refine WL.load rfl rfl rfl (Sg.ld bpS kS) ?_
                        refine WL.call [(preS c).v] enter47 rfl rfl rfl (rcheck_any _ kS _) ?_
                        rintro _ w38 ⟨rfl, e38⟩
                        rw [chkD, if_pos hg]
                        refine ⟨_, rfl, ?_⟩
                        have bp38 := bpS.on e38
                        have tq_50 := tq_49.below e38
                        have br_50 := br_49.on e38
                        have l_50 := bt l_49 e38
                        first | refine WL.assign rfl rfl rfl ?_
                        refine WL.done ?_
                        refine EW.on ?_
                        refine EW.seq ?_
                        refine EW.seq ?_
                        refine EW.ordB [(0, 0, 0), (1, 0, 0), (2, 0, 0), (3, 0, 1), (6, 0, 0), (7, 0, 1), (4, 1, 1), (5, 2, 0), (8, 0, 0), (9, 0, 0)] (by kernel_rfl) rfl (by kernel_rfl) ?_
                        simp only [opsZ, List.getD_cons_zero, List.getD_cons_succ]
                        first | refine ZE.move rfl rfl rfl rfl sz0 ?_
                        refine ZE.bin rfl rfl rfl rfl rfl sz0 (fun W => int_eq_t rfl W _ _) ?_
                        first | refine ZE.move rfl rfl rfl rfl sz0 ?_
                        refine ZE.load rfl rfl rfl rfl sz1 (fun W hW => Sg.ld (bp38.on (sb_of hW)) kS) ?_
                        refine ZE.move rfl rfl rfl rfl sz0 ?_
                        refine ZE.conv rfl rfl rfl rfl sz1 (fun W hW => ((hb.below l_50).below (sb_of hW)).convert) ?_
                        refine ZE.callR [(preS c).v] (fun v W => Ob W w38.heap.size v (encD (preS c)) ∧ Below w38.heap.size w38 W) enter65 rfl rfl rfl (fun _ _ h => .inr h.2) (fun W hW => (written_any _ kS W).mono fun e w' ⟨v, g1, g2, g3⟩ => ⟨v, g1, g2.lower hW.size, bt hW g3⟩) ?_
                        rintro vo ⟨_, _⟩
                        refine ZE.conv rfl rfl rfl rfl szC (fun W hW => hW.1.has.convert) ?_
                        refine ZE.bin rfl rfl rfl rfl rfl sz0 (fun W => (str_ne_d _ _ W _ _).trans (by rw [decide_eq_true he])) ?_
                        refine ZE.pick rfl rfl rfl rfl rfl sz0 ?_
                        intro w39 h39
                        have e39 := h39.2
                        have bp_51 := bp38.on e39
                        have tq_51 := tq_50.below e39
                        have br_51 := br_50.on e39
                        have l_51 := bt l_50 e39
                        refine EW.on ?_
                        refine EW.cond_t rfl ?_
                        refine EW.region ?_
                        first | refine WL.assign rfl rfl rfl ?_
                        refine WL.done ?_
                        refine EW.on ?_
                        refine EW.seq ?_
                        refine EW.seq ?_
                        refine EW.region ?_
                        first | refine WL.move rfl rfl rfl ?_
                        refine WL.bin rfl rfl rfl rfl (int_ne_t (by decide) _ _ _) ?_
                        refine WL.done ?_
                        refine EW.on ?_
                        refine EW.cond_t rfl ?_
                        refine EW.seq ?_
                        refine EW.region ?_
                        refine WL.buildN [] rfl rfl rfl (bd33 _) ?_
                        first | refine WL.move rfl rfl rfl ?_
                        obtain ⟨w9, s9, b9, f9⟩ := Sg.st (s := Sg.z) br_51 Sg.z_ok Sg.z_ok
                        refine WL.store rfl rfl rfl s9 ?_
                        first | refine WL.assign rfl rfl rfl ?_
                        refine WL.done ?_
                        refine EW.on ?_
                        refine EW.ret ?_
                        refine pr_then ?_
                        refine EW.returnsCT Try.results50 rfl rfl b9 Try.underlying33 rfl (by simpa using i33 Sg.z_ok) ⟨?_, bfx l_51 (by omega) f9⟩
                        have hE : parE c = 180 := by rw [hfin, if_neg (fun h => he h.2)]
                        rw [(par_is c).1, (par_is c).2, parS, hE]
                        first | rfl | (rw [if_pos rfl]; rfl) | (rw [if_neg (by decide)]; rfl)
                      · have hlen : c.length = eT c := by omega
                        have hS : (⟨(tkC c 1 16), (tkC c 81 32), (tkC c 113 32), (tkC c 145 32), (tkC c 177 32), (tkC c 221 32), (tkC c 261 32), (numB (tkC c 209 4)), (numB (tkC c 213 4)), (numB (tkC c 253 4)), (numB (tkC c 293 4)), (numB (tkC c 257 4)), (numB (tkC c 217 4)), (⟨((tkC c 17 64).take 32), (tkC c 298 32), (numB (tkC c 330 4))⟩ : Hl), (tkC c 17 64)⟩ : Sg) = preS c := by
                          rw [pre_tk (by omega) hlen, hpT, show oT c = 261 from by unfold oT; rw [if_pos h74], if_pos h74, if_pos h74, if_pos h74, if_pos h86, if_pos h86, hu2, if_pos (by omega)]
                        have bpS : Blk wi p (preS c).cs 33 := by rw [← hS]; exact ble_48
                        have kS : (preS c).ok := by rw [← hS]; exact kle_48
                        have hfin := doc_fin h0 hv (by omega) (by omega) hlen
                        refine EW.region ?_
                        refine WL.load rfl rfl rfl (Sg.ld bpS kS) ?_
                        refine WL.call [(preS c).v] enter47 rfl rfl rfl (rcheck_any _ kS _) ?_
                        rintro _ w38 ⟨rfl, e38⟩
                        rw [chkD, if_neg hg]
                        refine ⟨_, rfl, ?_⟩
                        have bp38 := bpS.on e38
                        have tq_50 := tq_49.below e38
                        have br_50 := br_49.on e38
                        have l_50 := bt l_49 e38
                        first | refine WL.assign rfl rfl rfl ?_
                        refine WL.done ?_
                        refine EW.on ?_
                        refine EW.seq ?_
                        refine EW.seq ?_
                        refine EW.ordB [(0, 0, 0), (1, 0, 0), (2, 0, 0), (3, 0, 1), (4, 0, 0), (5, 2, 0), (6, 0, 0), (7, 0, 1), (8, 0, 0), (9, 0, 0)] (by kernel_rfl) rfl (by kernel_rfl) ?_
                        simp only [opsZ, List.getD_cons_zero, List.getD_cons_succ]
                        first | refine ZE.move rfl rfl rfl rfl sz0 ?_
                        refine ZE.bin rfl rfl rfl rfl rfl sz0 (fun W => int_eq_f (by decide) W _ _) ?_
                        first | refine ZE.move rfl rfl rfl rfl sz0 ?_
                        refine ZE.skip rfl rfl rfl sz1 ?_
                        refine ZE.skip rfl rfl rfl sz0 ?_
                        refine ZE.skip rfl rfl rfl szC ?_
                        refine ZE.skip rfl rfl rfl sz0 ?_
                        refine ZE.skip rfl rfl rfl sz1 ?_
                        refine ZE.skip rfl rfl rfl sz0 ?_
                        refine ZE.pick rfl rfl rfl rfl rfl sz0 ?_
                        intro w39 e39
                        have bp_51 := bp38.on e39
                        have tq_51 := tq_50.below e39
                        have br_51 := br_50.on e39
                        have l_51 := bt l_50 e39
                        refine EW.on ?_
                        refine EW.cond_f rfl ?_
                        refine EW.skip ?_
                        refine EW.on ?_
                        refine EW.seq ?_
                        refine EW.seq ?_
                        refine EW.region ?_
                        first | refine WL.move rfl rfl rfl ?_
                        refine WL.bin rfl rfl rfl rfl (int_ne_t (by decide) _ _ _) ?_
                        refine WL.done ?_
                        refine EW.on ?_
                        refine EW.cond_t rfl ?_
                        refine EW.seq ?_
                        refine EW.region ?_
                        refine WL.buildN [] rfl rfl rfl (bd33 _) ?_
                        first | refine WL.move rfl rfl rfl ?_
                        obtain ⟨w9, s9, b9, f9⟩ := Sg.st (s := Sg.z) br_51 Sg.z_ok Sg.z_ok
                        refine WL.store rfl rfl rfl s9 ?_
                        first | refine WL.assign rfl rfl rfl ?_
                        refine WL.done ?_
                        refine EW.on ?_
                        refine EW.ret ?_
                        refine pr_then ?_
                        refine EW.returnsCT Try.results50 rfl rfl b9 Try.underlying33 rfl (by simpa using i33 Sg.z_ok) ⟨?_, bfx l_51 (by omega) f9⟩
                        have hE : parE c = 180 := by rw [hfin, if_neg (fun h => hg h.1)]
                        rw [(par_is c).1, (par_is c).2, parS, hE]
                        first | rfl | (rw [if_pos rfl]; rfl) | (rw [if_neg (by decide)]; rfl)
              · have hmm : numB (tkC c (pT c) 1) = u.toNat := by rw [hpT]; exact hu2
                refine EW.region ?_
                first | refine WL.move rfl rfl rfl ?_
                refine WL.bin rfl rfl rfl rfl (bgt_t (by omega) _ _ _) ?_
                refine WL.done ?_
                refine EW.on ?_
                refine EW.cond_t rfl ?_
                refine EW.seq ?_
                refine EW.region ?_
                refine WL.buildN [] rfl rfl rfl (bd33 _) ?_
                obtain ⟨w9, s9, b9, f9⟩ := Sg.st (s := Sg.z) br_41 Sg.z_ok Sg.z_ok
                refine WL.store rfl rfl rfl s9 ?_
                first | refine WL.assign rfl rfl rfl ?_
                refine WL.done ?_
                refine EW.on ?_
                refine EW.ret ?_
                refine pr_then ?_
                refine EW.returnsCT Try.results50 rfl rfl b9 Try.underlying33 rfl (by simpa using i33 Sg.z_ok) ⟨?_, bfx l_41 (by omega) f9⟩
                have hE : parE c = 180 := doc_bad h0 hv (by omega) (by omega)
                rw [(par_is c).1, (par_is c).2, parS, hE]
                first | rfl | (rw [if_pos rfl]; rfl) | (rw [if_neg (by decide)]; rfl)
          · refine EW.skip ?_
            refine EW.on ?_
            refine EW.seq ?_
            refine EW.region ?_
            first | refine WL.move rfl rfl rfl ?_
            have lsz35 := l_34.size
            refine WL.call [.pointer (some ⟨q, 0, none⟩), .int .i64 1] enter66 rfl rfl rfl (tq_take B q 1 261 c _ tq_34 (by omega) (by decide) (by decide) hl) ?_
            rintro _ wc35 ⟨vt35, rfl, ot35, tq35', fc35⟩
            refine ⟨_, rfl, ?_⟩
            have tq_35 : Tq wc35 B q c 262 := tq35'
            have bp_35 := bc_33.fx fc35 (fun e => hqp e.symm)
            have br_35 := br_34.fx fc35 (fun e => by omega)
            have l_35 := bfx l_34 (by omega) fc35
            have lc35 := fc35.size
            obtain ⟨u, hu1, hu2⟩ := tk1 c 261
            rw [hu1] at ot35
            obtain ⟨adm, ium, lum⟩ := ot35.has.item (i := 0) (u := u) rfl
            refine WL.index rfl rfl rfl rfl (ium _) ?_
            refine WL.load rfl rfl rfl lum ?_
            first | refine WL.assign rfl rfl rfl ?_
            refine WL.done ?_
            refine EW.on ?_
            refine EW.seq ?_
            refine EW.seq ?_
            by_cases hsh : c.length < 262
            · have hpT : pT c = 261 := by unfold pT oT; rw [if_neg h86, if_pos h74]
              refine EW.region ?_
              first | refine WL.move rfl rfl rfl ?_
              first | refine WL.nilc rfl rfl rfl ?_
              refine WL.field rfl rfl rfl (f115_1 q _) ?_
              have htq24 := tq_35
              obtain ⟨bvx24, tkx24⟩ := htq24
              have blx24 := tkx24.bl
              rw [decide_eq_true hsh] at blx24
              refine WL.load rfl rfl rfl (ldBo blx24 rfl) ?_
              refine WL.done ?_
              refine EW.on ?_
              refine EW.cond_t rfl ?_
              refine EW.seq ?_
              refine EW.region ?_
              refine WL.buildN [] rfl rfl rfl (bd33 _) ?_
              obtain ⟨w9, s9, b9, f9⟩ := Sg.st (s := Sg.z) br_35 Sg.z_ok Sg.z_ok
              refine WL.store rfl rfl rfl s9 ?_
              first | refine WL.assign rfl rfl rfl ?_
              refine WL.done ?_
              refine EW.on ?_
              refine EW.ret ?_
              refine pr_then ?_
              refine EW.returnsCT Try.results50 rfl rfl b9 Try.underlying33 rfl (by simpa using i33 Sg.z_ok) ⟨?_, bfx l_35 (by omega) f9⟩
              have hE : parE c = 10 := doc_short h0 hv (by omega)
              rw [(par_is c).1, (par_is c).2, parS, hE]
              first | rfl | (rw [if_pos rfl]; rfl) | (rw [if_neg (by decide)]; rfl)
            · have hpT : pT c = 261 := by unfold pT oT; rw [if_neg h86, if_pos h74]
              refine EW.region ?_
              first | refine WL.move rfl rfl rfl ?_
              first | refine WL.nilc rfl rfl rfl ?_
              refine WL.field rfl rfl rfl (f115_1 q _) ?_
              have htq24 := tq_35
              obtain ⟨bvx24, tkx24⟩ := htq24
              have blx24 := tkx24.bl
              rw [decide_eq_false hsh] at blx24
              refine WL.load rfl rfl rfl (ldBo blx24 rfl) ?_
              refine WL.done ?_
              refine EW.on ?_
              refine EW.cond_f rfl ?_
              refine EW.skip ?_
              refine EW.on ?_
              refine EW.seq ?_
              refine EW.seq ?_
              have hmc : u.toNat = 0 ∨ u.toNat = 1 ∨ 1 < u.toNat := by omega
              rcases hmc with hmc | hmc | hmc
              · have hmm : numB (tkC c (pT c) 1) = u.toNat := by rw [hpT]; exact hu2
                refine EW.region ?_
                first | refine WL.move rfl rfl rfl ?_
                refine WL.bin rfl rfl rfl rfl (bgt_f (by omega) _ _ _) ?_
                refine WL.done ?_
                refine EW.on ?_
                refine EW.cond_f rfl ?_
                refine EW.skip ?_
                refine EW.on ?_
                refine EW.seq ?_
                refine EW.seq ?_
                refine EW.region ?_
                first | refine WL.move rfl rfl rfl ?_
                refine WL.bin rfl rfl rfl rfl (beq_f (by omega) _ _ _) ?_
                refine WL.done ?_
                refine EW.on ?_
                refine EW.cond_f rfl ?_
                refine EW.skip ?_
                refine EW.on ?_
                refine EW.seq ?_
                refine EW.seq ?_
                by_cases hsh2 : c.length < 262
                · have heT : eT c = 262 := by unfold eT; rw [hpT, hu2]; rw [if_neg (by omega)]
                  refine EW.region ?_
                  first | refine WL.move rfl rfl rfl ?_
                  first | refine WL.nilc rfl rfl rfl ?_
                  refine WL.field rfl rfl rfl (f115_1 q _) ?_
                  have htq34 := tq_35
                  obtain ⟨bvx34, tkx34⟩ := htq34
                  have blx34 := tkx34.bl
                  rw [decide_eq_true hsh2] at blx34
                  refine WL.load rfl rfl rfl (ldBo blx34 rfl) ?_
                  refine WL.done ?_
                  refine EW.on ?_
                  refine EW.cond_t rfl ?_
                  refine EW.seq ?_
                  refine EW.region ?_
                  refine WL.buildN [] rfl rfl rfl (bd33 _) ?_
                  obtain ⟨w9, s9, b9, f9⟩ := Sg.st (s := Sg.z) br_35 Sg.z_ok Sg.z_ok
                  refine WL.store rfl rfl rfl s9 ?_
                  first | refine WL.assign rfl rfl rfl ?_
                  refine WL.done ?_
                  refine EW.on ?_
                  refine EW.ret ?_
                  refine pr_then ?_
                  refine EW.returnsCT Try.results50 rfl rfl b9 Try.underlying33 rfl (by simpa using i33 Sg.z_ok) ⟨?_, bfx l_35 (by omega) f9⟩
                  have hE : parE c = 10 := doc_short2 h0 hv (by omega) (by omega) (by omega)
                  rw [(par_is c).1, (par_is c).2, parS, hE]
                  first | rfl | (rw [if_pos rfl]; rfl) | (rw [if_neg (by decide)]; rfl)
                · have heT : eT c = 262 := by unfold eT; rw [hpT, hu2]; rw [if_neg (by omega)]
                  refine EW.region ?_
                  first | refine WL.move rfl rfl rfl ?_
                  first | refine WL.nilc rfl rfl rfl ?_
                  refine WL.field rfl rfl rfl (f115_1 q _) ?_
                  have htq34 := tq_35
                  obtain ⟨bvx34, tkx34⟩ := htq34
                  have blx34 := tkx34.bl
                  rw [decide_eq_false hsh2] at blx34
                  refine WL.load rfl rfl rfl (ldBo blx34 rfl) ?_
                  refine WL.done ?_
                  refine EW.on ?_
                  refine EW.cond_f rfl ?_
                  refine EW.skip ?_
                  refine EW.on ?_
                  refine EW.seq ?_
                  refine EW.seq ?_
                  by_cases htl2 : eT c < c.length
                  · refine EW.region ?_
                    first | refine WL.move rfl rfl rfl ?_
                    first | refine WL.nilc rfl rfl rfl ?_
                    refine WL.field rfl rfl rfl (f115_0 q _) ?_
                    have htq36 := tq_35
                    obtain ⟨bvy, tky⟩ := htq36
                    refine WL.load rfl rfl rfl (ldS tky.bl rfl) ?_
                    refine WL.len rfl rfl rfl (tky.hs.len _ _) ?_
                    refine WL.bin rfl rfl rfl rfl (int_gt_t (by rw [List.length_drop]; omega) _ _ _) ?_
                    refine WL.done ?_
                    refine EW.on ?_
                    refine EW.cond_t rfl ?_
                    refine EW.seq ?_
                    refine EW.region ?_
                    refine WL.buildN [] rfl rfl rfl (bd33 _) ?_
                    obtain ⟨w9, s9, b9, f9⟩ := Sg.st (s := Sg.z) br_35 Sg.z_ok Sg.z_ok
                    refine WL.store rfl rfl rfl s9 ?_
                    first | refine WL.assign rfl rfl rfl ?_
                    refine WL.done ?_
                    refine EW.on ?_
                    refine EW.ret ?_
                    refine pr_then ?_
                    refine EW.returnsCT Try.results50 rfl rfl b9 Try.underlying33 rfl (by simpa using i33 Sg.z_ok) ⟨?_, bfx l_35 (by omega) f9⟩
                    have hE : parE c = 11 := doc_tail h0 hv (by omega) (by omega) (by omega)
                    rw [(par_is c).1, (par_is c).2, parS, hE]
                    first | rfl | (rw [if_pos rfl]; rfl) | (rw [if_neg (by decide)]; rfl)
                  · refine EW.region ?_
                    first | refine WL.move rfl rfl rfl ?_
                    first | refine WL.nilc rfl rfl rfl ?_
                    refine WL.field rfl rfl rfl (f115_0 q _) ?_
                    have htq36 := tq_35
                    obtain ⟨bvy, tky⟩ := htq36
                    refine WL.load rfl rfl rfl (ldS tky.bl rfl) ?_
                    refine WL.len rfl rfl rfl (tky.hs.len _ _) ?_
                    refine WL.bin rfl rfl rfl rfl (int_gt_f (by rw [List.length_drop]; omega) _ _ _) ?_
                    refine WL.done ?_
                    refine EW.on ?_
                    refine EW.cond_f rfl ?_
                    refine EW.skip ?_
                    refine EW.on ?_
                    refine EW.seq ?_
                    have hgc : (Good (preS c) ∧ encD (preS c) = c) ∨ (Good (preS c) ∧ ¬ encD (preS c) = c) ∨ ¬ Good (preS c) := by
                      by_cases x1 : Good (preS c) <;> by_cases x2 : encD (preS c) = c <;> simp [x1, x2]
                    rcases hgc with ⟨hg, he⟩ | ⟨hg, he⟩ | hg
                    · have hlen : c.length = eT c := by omega
                      have hS : (⟨(tkC c 1 16), (tkC c 81 32), (tkC c 113 32), (tkC c 145 32), (tkC c 177 32), (tkC c 221 32), z32, (numB (tkC c 209 4)), (numB (tkC c 213 4)), (numB (tkC c 253 4)), 0, (numB (tkC c 257 4)), (numB (tkC c 217 4)), Hl.z, (tkC c 17 64)⟩ : Sg) = preS c := by
                        rw [pre_tk (by omega) hlen, hpT, show oT c = 261 from by unfold oT; rw [if_pos h74], if_pos h74, if_pos h74, if_pos h74, if_neg h86, if_neg h86, hu2, if_neg (by omega)]
                      have bpS : Blk wc35 p (preS c).cs 33 := by rw [← hS]; exact bp_35
                      have kS : (preS c).ok := by rw [← hS]; exact k_33
                      have hfin := doc_fin h0 hv (by omega) (by omega) hlen
                      refine EW.region ?_
                      refine WL.load rfl rfl rfl (Sg.ld bpS kS) ?_
                      refine WL.call [(preS c).v] enter47 rfl rfl rfl (rcheck_any _ kS _) ?_
                      rintro _ w38 ⟨rfl, e38⟩
                      rw [chkD, if_pos hg]
                      refine ⟨_, rfl, ?_⟩
                      have bp38 := bpS.on e38
                      have tq_36 := tq_35.below e38
                      have br_36 := br_35.on e38
                      have l_36 := bt l_35 e38
                      first | refine WL.assign rfl rfl rfl ?_
                      refine WL.done ?_
                      refine EW.on ?_
                      refine EW.seq ?_
                      refine EW.seq ?_
                      refine EW.ordB [(0, 0, 0), (1, 0, 0), (2, 0, 0), (3, 0, 1), (6, 0, 0), (7, 0, 1), (4, 1, 1), (5, 2, 0), (8, 0, 0), (9, 0, 0)] (by kernel_rfl) rfl (by kernel_rfl) ?_
                      simp only [opsZ, List.getD_cons_zero, List.getD_cons_succ]
                      first | refine ZE.move rfl rfl rfl rfl sz0 ?_
                      refine ZE.bin rfl rfl rfl rfl rfl sz0 (fun W => int_eq_t rfl W _ _) ?_
                      first | refine ZE.move rfl rfl rfl rfl sz0 ?_
                      refine ZE.load rfl rfl rfl rfl sz1 (fun W hW => Sg.ld (bp38.on (sb_of hW)) kS) ?_
                      refine ZE.move rfl rfl rfl rfl sz0 ?_
                      refine ZE.conv rfl rfl rfl rfl sz1 (fun W hW => ((hb.below l_36).below (sb_of hW)).convert) ?_
                      refine ZE.callR [(preS c).v] (fun v W => Ob W w38.heap.size v (encD (preS c)) ∧ Below w38.heap.size w38 W) enter65 rfl rfl rfl (fun _ _ h => .inr h.2) (fun W hW => (written_any _ kS W).mono fun e w' ⟨v, g1, g2, g3⟩ => ⟨v, g1, g2.lower hW.size, bt hW g3⟩) ?_
                      rintro vo ⟨_, _⟩
                      refine ZE.conv rfl rfl rfl rfl szC (fun W hW => hW.1.has.convert) ?_
                      refine ZE.bin rfl rfl rfl rfl rfl sz0 (fun W => (str_ne_d _ _ W _ _).trans (by rw [decide_eq_false (show ¬ ¬ encD (preS c) = c from fun h => h he)])) ?_
                      refine ZE.pick rfl rfl rfl rfl rfl sz0 ?_
                      intro w39 h39
                      have e39 := h39.2
                      have bp_37 := bp38.on e39
                      have tq_37 := tq_36.below e39
                      have br_37 := br_36.on e39
                      have l_37 := bt l_36 e39
                      refine EW.on ?_
                      refine EW.cond_f rfl ?_
                      refine EW.skip ?_
                      refine EW.on ?_
                      refine EW.seq ?_
                      refine EW.seq ?_
                      refine EW.region ?_
                      first | refine WL.move rfl rfl rfl ?_
                      refine WL.bin rfl rfl rfl rfl (int_ne_f rfl _ _ _) ?_
                      refine WL.done ?_
                      refine EW.on ?_
                      refine EW.cond_f rfl ?_
                      refine EW.skip ?_
                      refine EW.on ?_
                      refine EW.seq ?_
                      refine EW.region ?_
                      refine WL.load rfl rfl rfl (Sg.ld bp_37 kS) ?_
                      obtain ⟨w9, s9, b9, f9⟩ := Sg.st (s := (preS c)) br_37 Sg.z_ok kS
                      refine WL.store rfl rfl rfl s9 ?_
                      first | refine WL.assign rfl rfl rfl ?_
                      refine WL.done ?_
                      refine EW.on ?_
                      refine EW.ret ?_
                      refine EW.returnsCT Try.results50 rfl rfl b9 Try.underlying33 rfl (by simpa using i33 kS) ⟨?_, bfx l_37 (by omega) f9⟩
                      have hE : parE c = 0 := by rw [hfin, if_pos ⟨hg, he⟩]
                      rw [(par_is c).1, (par_is c).2, parS, hE]
                      first | rfl | (rw [if_pos rfl]; rfl) | (rw [if_neg (by decide)]; rfl)
                    · have hlen : c.length = eT c := by omega
                      have hS : (⟨(tkC c 1 16), (tkC c 81 32), (tkC c 113 32), (tkC c 145 32), (tkC c 177 32), (tkC c 221 32), z32, (numB (tkC c 209 4)), (numB (tkC c 213 4)), (numB (tkC c 253 4)), 0, (numB (tkC c 257 4)), (numB (tkC c 217 4)), Hl.z, (tkC c 17 64)⟩ : Sg) = preS c := by
                        rw [pre_tk (by omega) hlen, hpT, show oT c = 261 from by unfold oT; rw [if_pos h74], if_pos h74, if_pos h74, if_pos h74, if_neg h86, if_neg h86, hu2, if_neg (by omega)]
                      have bpS : Blk wc35 p (preS c).cs 33 := by rw [← hS]; exact bp_35
                      have kS : (preS c).ok := by rw [← hS]; exact k_33
                      have hfin := doc_fin h0 hv (by omega) (by omega) hlen
                      refine EW.region ?_
                      refine WL.load rfl rfl rfl (Sg.ld bpS kS) ?_
                      refine WL.call [(preS c).v] enter47 rfl rfl rfl (rcheck_any _ kS _) ?_
                      rintro _ w38 ⟨rfl, e38⟩
                      rw [chkD, if_pos hg]
                      refine ⟨_, rfl, ?_⟩
                      have bp38 := bpS.on e38
                      have tq_36 := tq_35.below e38
                      have br_36 := br_35.on e38
                      have l_36 := bt l_35 e38
                      first | refine WL.assign rfl rfl rfl ?_
                      refine WL.done ?_
                      refine EW.on ?_
                      refine EW.seq ?_
                      refine EW.seq ?_
                      refine EW.ordB [(0, 0, 0), (1, 0, 0), (2, 0, 0), (3, 0, 1), (6, 0, 0), (7, 0, 1), (4, 1, 1), (5, 2, 0), (8, 0, 0), (9, 0, 0)] (by kernel_rfl) rfl (by kernel_rfl) ?_
                      simp only [opsZ, List.getD_cons_zero, List.getD_cons_succ]
                      first | refine ZE.move rfl rfl rfl rfl sz0 ?_
                      refine ZE.bin rfl rfl rfl rfl rfl sz0 (fun W => int_eq_t rfl W _ _) ?_
                      first | refine ZE.move rfl rfl rfl rfl sz0 ?_
                      refine ZE.load rfl rfl rfl rfl sz1 (fun W hW => Sg.ld (bp38.on (sb_of hW)) kS) ?_
                      refine ZE.move rfl rfl rfl rfl sz0 ?_
                      refine ZE.conv rfl rfl rfl rfl sz1 (fun W hW => ((hb.below l_36).below (sb_of hW)).convert) ?_
                      refine ZE.callR [(preS c).v] (fun v W => Ob W w38.heap.size v (encD (preS c)) ∧ Below w38.heap.size w38 W) enter65 rfl rfl rfl (fun _ _ h => .inr h.2) (fun W hW => (written_any _ kS W).mono fun e w' ⟨v, g1, g2, g3⟩ => ⟨v, g1, g2.lower hW.size, bt hW g3⟩) ?_
                      rintro vo ⟨_, _⟩
                      refine ZE.conv rfl rfl rfl rfl szC (fun W hW => hW.1.has.convert) ?_
                      refine ZE.bin rfl rfl rfl rfl rfl sz0 (fun W => (str_ne_d _ _ W _ _).trans (by rw [decide_eq_true he])) ?_
                      refine ZE.pick rfl rfl rfl rfl rfl sz0 ?_
                      intro w39 h39
                      have e39 := h39.2
                      have bp_37 := bp38.on e39
                      have tq_37 := tq_36.below e39
                      have br_37 := br_36.on e39
                      have l_37 := bt l_36 e39
                      refine EW.on ?_
                      refine EW.cond_t rfl ?_
                      refine EW.region ?_
                      first | refine WL.assign rfl rfl rfl ?_
                      refine WL.done ?_
                      refine EW.on ?_
                      refine EW.seq ?_
                      refine EW.seq ?_
                      refine EW.region ?_
                      first | refine WL.move rfl rfl rfl ?_
                      refine WL.bin rfl rfl rfl rfl (int_ne_t (by decide) _ _ _) ?_
                      refine WL.done ?_
                      refine EW.on ?_
                      refine EW.cond_t rfl ?_
                      refine EW.seq ?_
                      refine EW.region ?_
                      refine WL.buildN [] rfl rfl rfl (bd33 _) ?_
                      first | refine WL.move rfl rfl rfl ?_
                      obtain ⟨w9, s9, b9, f9⟩ := Sg.st (s := Sg.z) br_37 Sg.z_ok Sg.z_ok
                      refine WL.store rfl rfl rfl s9 ?_
                      first | refine WL.assign rfl rfl rfl ?_
                      refine WL.done ?_
                      refine EW.on ?_
                      refine EW.ret ?_
                      refine pr_then ?_
                      refine EW.returnsCT Try.results50 rfl rfl b9 Try.underlying33 rfl (by simpa using i33 Sg.z_ok) ⟨?_, bfx l_37 (by omega) f9⟩
                      have hE : parE c = 180 := by rw [hfin, if_neg (fun h => he h.2)]
                      rw [(par_is c).1, (par_is c).2, parS, hE]
                      first | rfl | (rw [if_pos rfl]; rfl) | (rw [if_neg (by decide)]; rfl)
                    · have hlen : c.length = eT c := by omega
                      have hS : (⟨(tkC c 1 16), (tkC c 81 32), (tkC c 113 32), (tkC c 145 32), (tkC c 177 32), (tkC c 221 32), z32, (numB (tkC c 209 4)), (numB (tkC c 213 4)), (numB (tkC c 253 4)), 0, (numB (tkC c 257 4)), (numB (tkC c 217 4)), Hl.z, (tkC c 17 64)⟩ : Sg) = preS c := by
                        rw [pre_tk (by omega) hlen, hpT, show oT c = 261 from by unfold oT; rw [if_pos h74], if_pos h74, if_pos h74, if_pos h74, if_neg h86, if_neg h86, hu2, if_neg (by omega)]
                      have bpS : Blk wc35 p (preS c).cs 33 := by rw [← hS]; exact bp_35
                      have kS : (preS c).ok := by rw [← hS]; exact k_33
                      have hfin := doc_fin h0 hv (by omega) (by omega) hlen
                      refine EW.region ?_
                      refine WL.load rfl rfl rfl (Sg.ld bpS kS) ?_
                      refine WL.call [(preS c).v] enter47 rfl rfl rfl (rcheck_any _ kS _) ?_
                      rintro _ w38 ⟨rfl, e38⟩
                      rw [chkD, if_neg hg]
                      refine ⟨_, rfl, ?_⟩
                      have bp38 := bpS.on e38
                      have tq_36 := tq_35.below e38
                      have br_36 := br_35.on e38
                      have l_36 := bt l_35 e38
                      first | refine WL.assign rfl rfl rfl ?_
                      refine WL.done ?_
                      refine EW.on ?_
                      refine EW.seq ?_
                      refine EW.seq ?_
                      refine EW.ordB [(0, 0, 0), (1, 0, 0), (2, 0, 0), (3, 0, 1), (4, 0, 0), (5, 2, 0), (6, 0, 0), (7, 0, 1), (8, 0, 0), (9, 0, 0)] (by kernel_rfl) rfl (by kernel_rfl) ?_
                      simp only [opsZ, List.getD_cons_zero, List.getD_cons_succ]
                      first | refine ZE.move rfl rfl rfl rfl sz0 ?_
                      refine ZE.bin rfl rfl rfl rfl rfl sz0 (fun W => int_eq_f (by decide) W _ _) ?_
                      first | refine ZE.move rfl rfl rfl rfl sz0 ?_
                      refine ZE.skip rfl rfl rfl sz1 ?_
                      refine ZE.skip rfl rfl rfl sz0 ?_
                      refine ZE.skip rfl rfl rfl szC ?_
                      refine ZE.skip rfl rfl rfl sz0 ?_
                      refine ZE.skip rfl rfl rfl sz1 ?_
                      refine ZE.skip rfl rfl rfl sz0 ?_
                      refine ZE.pick rfl rfl rfl rfl rfl sz0 ?_
                      intro w39 e39
                      have bp_37 := bp38.on e39
                      have tq_37 := tq_36.below e39
                      have br_37 := br_36.on e39
                      have l_37 := bt l_36 e39
                      refine EW.on ?_
                      refine EW.cond_f rfl ?_
                      refine EW.skip ?_
                      refine EW.on ?_
                      refine EW.seq ?_
                      refine EW.seq ?_
                      refine EW.region ?_
                      first | refine WL.move rfl rfl rfl ?_
                      refine WL.bin rfl rfl rfl rfl (int_ne_t (by decide) _ _ _) ?_
                      refine WL.done ?_
                      refine EW.on ?_
                      refine EW.cond_t rfl ?_
                      refine EW.seq ?_
                      refine EW.region ?_
                      refine WL.buildN [] rfl rfl rfl (bd33 _) ?_
                      first | refine WL.move rfl rfl rfl ?_
                      obtain ⟨w9, s9, b9, f9⟩ := Sg.st (s := Sg.z) br_37 Sg.z_ok Sg.z_ok
                      refine WL.store rfl rfl rfl s9 ?_
                      first | refine WL.assign rfl rfl rfl ?_
                      refine WL.done ?_
                      refine EW.on ?_
                      refine EW.ret ?_
                      refine pr_then ?_
                      refine EW.returnsCT Try.results50 rfl rfl b9 Try.underlying33 rfl (by simpa using i33 Sg.z_ok) ⟨?_, bfx l_37 (by omega) f9⟩
                      have hE : parE c = 180 := by rw [hfin, if_neg (fun h => hg h.1)]
                      rw [(par_is c).1, (par_is c).2, parS, hE]
                      first | rfl | (rw [if_pos rfl]; rfl) | (rw [if_neg (by decide)]; rfl)
              · have hmm : numB (tkC c (pT c) 1) = u.toNat := by rw [hpT]; exact hu2
                refine EW.region ?_
                first | refine WL.move rfl rfl rfl ?_
                refine WL.bin rfl rfl rfl rfl (bgt_f (by omega) _ _ _) ?_
                refine WL.done ?_
                refine EW.on ?_
                refine EW.cond_f rfl ?_
                refine EW.skip ?_
                refine EW.on ?_
                refine EW.seq ?_
                refine EW.seq ?_
                refine EW.region ?_
                first | refine WL.move rfl rfl rfl ?_
                refine WL.bin rfl rfl rfl rfl (beq_t (by omega) _ _ _) ?_
                refine WL.done ?_
                refine EW.on ?_
                refine EW.cond_t rfl ?_
                refine EW.seq ?_
                refine EW.region ?_
                first | refine WL.move rfl rfl rfl ?_
                have lsz36 := l_35.size
                refine WL.call [.pointer (some ⟨q, 0, none⟩)] enter67 rfl rfl rfl (tq_key B q 262 c _ tq_35 (by omega) hl) ?_
                rintro _ wc36 ⟨rfl, tq36', fc36⟩
                refine ⟨_, rfl, ?_⟩
                have tq_36 : Tq wc36 B q c 294 := tq36'
                have bp_36 := bp_35.fx fc36 (fun e => hqp e.symm)
                have br_36 := br_35.fx fc36 (fun e => by omega)
                have l_36 := bfx l_35 (by omega) fc36
                have lc36 := fc36.size
                first | refine WL.move rfl rfl rfl ?_
                have lsz37 := l_36.size
                refine WL.call [.pointer (some ⟨q, 0, none⟩)] enter68 rfl rfl rfl (tq_four B q 294 c _ tq_36 (by omega) hl) ?_
                rintro _ wc37 ⟨rfl, tq37', fc37⟩
                refine ⟨_, rfl, ?_⟩
                have tq_37 : Tq wc37 B q c 298 := tq37'
                have bp_37 := bp_36.fx fc37 (fun e => hqp e.symm)
                have br_37 := br_36.fx fc37 (fun e => by omega)
                have l_37 := bfx l_36 (by omega) fc37
                have lc37 := fc37.size
                first | refine WL.field rfl rfl rfl (f33_12 p _) ?_
                first | refine WL.field rfl rfl rfl (f30_1 p 214 _) ?_
                obtain ⟨w_38, s_38, bb_38, fx_38⟩ := Sg.st_honce bp_37 k_33 (x := (tkC c 262 32)) (tkC_len _ _ _)
                have bc_38 : Blk w_38 p (Sg.cs (⟨(tkC c 1 16), (tkC c 81 32), (tkC c 113 32), (tkC c 145 32), (tkC c 177 32), (tkC c 221 32), z32, (numB (tkC c 209 4)), (numB (tkC c 213 4)), (numB (tkC c 253 4)), 0, (numB (tkC c 257 4)), (numB (tkC c 217 4)), (⟨z32, (tkC c 262 32), 0⟩ : Hl), (tkC c 17 64)⟩ : Sg)) 33 := bb_38
                have k_38 : Sg.ok (⟨(tkC c 1 16), (tkC c 81 32), (tkC c 113 32), (tkC c 145 32), (tkC c 177 32), (tkC c 221 32), z32, (numB (tkC c 209 4)), (numB (tkC c 213 4)), (numB (tkC c 253 4)), 0, (numB (tkC c 257 4)), (numB (tkC c 217 4)), (⟨z32, (tkC c 262 32), 0⟩ : Hl), (tkC c 17 64)⟩ : Sg) := k_33.s_hl (x := (⟨z32, (tkC c 262 32), 0⟩ : Hl)) ⟨k_33.hl.i, (tkC_len _ _ _), k_33.hl.p⟩
                clear bb_38
                refine WL.store rfl rfl rfl s_38 ?_
                have tq_39 := tq_37.fx fx_38 (fun e => hqp e) (fun k hk => by have hk : k = p := hk; omega)
                have br_39 := br_37.fx fx_38 (fun e => by omega)
                have l_39 := bfx l_37 (by omega) fx_38
                first | refine WL.field rfl rfl rfl (f33_12 p _) ?_
                first | refine WL.field rfl rfl rfl (f30_2 p 214 _) ?_
                obtain ⟨w_40, s_40, bb_40, fx_40⟩ := Sg.st_hpre bc_38 k_38 ((numB (tkC c 294 4)))
                have bc_40 : Blk w_40 p (Sg.cs (⟨(tkC c 1 16), (tkC c 81 32), (tkC c 113 32), (tkC c 145 32), (tkC c 177 32), (tkC c 221 32), z32, (numB (tkC c 209 4)), (numB (tkC c 213 4)), (numB (tkC c 253 4)), 0, (numB (tkC c 257 4)), (numB (tkC c 217 4)), (⟨z32, (tkC c 262 32), (numB (tkC c 294 4))⟩ : Hl), (tkC c 17 64)⟩ : Sg)) 33 := bb_40
                have k_40 : Sg.ok (⟨(tkC c 1 16), (tkC c 81 32), (tkC c 113 32), (tkC c 145 32), (tkC c 177 32), (tkC c 221 32), z32, (numB (tkC c 209 4)), (numB (tkC c 213 4)), (numB (tkC c 253 4)), 0, (numB (tkC c 257 4)), (numB (tkC c 217 4)), (⟨z32, (tkC c 262 32), (numB (tkC c 294 4))⟩ : Hl), (tkC c 17 64)⟩ : Sg) := k_38.s_hl (x := (⟨z32, (tkC c 262 32), (numB (tkC c 294 4))⟩ : Hl)) ⟨k_38.hl.i, k_38.hl.o, (numB_32 _ (Nat.le_of_eq (tkC_len _ _ _)))⟩
                clear bb_40
                refine WL.store rfl rfl rfl s_40 ?_
                have tq_41 := tq_39.fx fx_40 (fun e => hqp e) (fun k hk => by have hk : k = p := hk; omega)
                have br_41 := br_39.fx fx_40 (fun e => by omega)
                have l_41 := bfx l_39 (by omega) fx_40
                refine WL.done ?_
                refine EW.on ?_
                refine EW.seq ?_
                obtain ⟨s0, hs0⟩ : ∃ s0, (⟨(tkC c 1 16), (tkC c 81 32), (tkC c 113 32), (tkC c 145 32), (tkC c 177 32), (tkC c 221 32), z32, (numB (tkC c 209 4)), (numB (tkC c 213 4)), (numB (tkC c 253 4)), 0, (numB (tkC c 257 4)), (numB (tkC c 217 4)), (⟨z32, (tkC c 262 32), (numB (tkC c 294 4))⟩ : Hl), (tkC c 17 64)⟩ : Sg) = s0 := ⟨_, rfl⟩
                have bs0 := bc_40
                have ks0 := k_40
                rw [hs0] at bs0 ks0
                have hid0 : s0.hl.id = z32 := by rw [← hs0]
                refine EW.region ?_
                first | refine WL.assign rfl rfl rfl ?_
                refine WL.done ?_
                refine EW.on ?_
                refine EW.block ?_
                refine EW.loop (d2E vb qr q p) (D2I s0 (s0.bind.take 32) p w_40) (fun t => 32 - t) 0 [0, 2, 4, 5, 10] rfl ⟨Nat.zero_le _, by
                  rw [ouB_zero]
                  have e : ({ s0 with hl := { s0.hl with id := List.replicate 32 0 } } : Sg) = s0 := by
                    have e2 : s0.hl.id = List.replicate 32 0 := hid0
                    rw [← e2]
                  rw [e]; exact bs0, Fx.refl _ _⟩ ?_
                rintro t wi ⟨htl, bi, fxi⟩
                show EW _ _ _ _ [(0, vb), (2, .pointer (some ⟨qr, 0, none⟩)), (4, .pointer (some ⟨q, 0, none⟩)), (5, .pointer (some ⟨p, 0, none⟩)), (10, .int .i64 (t : Int))] _
                refine EW.seq ?_
                refine EW.seq ?_
                refine EW.region ?_
                first | refine WL.move rfl rfl rfl ?_
                refine WL.bin rfl rfl rfl rfl (int_lt_d _ _ _ _ _) ?_
                refine WL.done ?_
                refine EW.on ?_
                refine EW.cond_d rfl (fun h116 => ?_) (fun h116 => ?_)
                · refine EW.skip ?_
                  refine EW.on ?_
                  refine EW.seq ?_
                  refine EW.block ?_
                  refine EW.region ?_
                  first | refine WL.move rfl rfl rfl ?_
                  first | refine WL.move rfl rfl rfl ?_
                  refine WL.field rfl rfl rfl (f33_13 p _) ?_
                  have hlt : t < 32 := by omega
                  have ki : Sg.ok { s0 with hl := { s0.hl with id := ouB (s0.bind.take 32) 32 t } } := ks0.s_hl ⟨ouB_len htl, ks0.hl.o, ks0.hl.p⟩
                  refine WL.index rfl rfl rfl rfl (ix31 p 279 t (by omega) _) ?_
                  refine WL.load rfl rfl rfl (Sg.ldI_bind (i := t) bi ki (by omega)) ?_
                  refine WL.field rfl rfl rfl (f33_12 p _) ?_
                  refine WL.field rfl rfl rfl (f30_0 p 214 _) ?_
                  refine WL.index rfl rfl rfl rfl (ix25 p (214 + 0) t hlt _) ?_
                  obtain ⟨w33, s33, b33, f33⟩ := Sg.stI_hid (i := t) bi ki hlt (s0.bind.getD t 0)
                  refine WL.store rfl rfl rfl s33 ?_
                  have e33 : (ouB (s0.bind.take 32) 32 t).set t (s0.bind.getD t 0) = ouB (s0.bind.take 32) 32 (t + 1) := ouB_step hlt (by
                    rw [tkB_self (takeB ks0.bind), List.getElem?_take_of_lt hlt, List.getD_eq_getElem?_getD, List.getElem?_eq_getElem (by rw [ks0.bind]; omega)]
                    rfl)
                  have b33 : Blk w33 p (Sg.cs { s0 with hl := { s0.hl with id := ouB (s0.bind.take 32) 32 (t + 1) } }) 33 := by rw [← e33]; exact b33
                  refine WL.done ?_
                  refine pn_block ?_
                  refine EW.on ?_
                  refine EW.region ?_
                  first | refine WL.move rfl rfl rfl ?_
                  refine WL.bin rfl rfl rfl rfl (int_add (c := ((t + 1 : Nat) : Int)) (by rw [IntKind.wrap_i64]; omega) _ _ _) ?_
                  first | refine WL.assign rfl rfl rfl ?_
                  refine WL.done ?_
                  exact EW.again (E := d2E vb qr q p) (R := D2I s0 (s0.bind.take 32) p w_40) (m := fun t => 32 - t) (x := t) (t + 1) [0, 2, 4, 5, 10] rfl ⟨by omega, b33, fxi.and f33⟩ (by show 32 - (t + 1) < 32 - t; omega)
                · refine EW.exit ?_
                  refine px_then ?_
                  refine px_then ?_
                  refine px_block ?_
                  refine EW.on ?_
                  refine EW.seq ?_
                  refine EW.seq ?_
                  by_cases hsh2 : c.length < 298
                  · have heT : eT c = 298 := by unfold eT; rw [hpT, hu2]; rw [if_pos (by omega)]
                    have hte : t = 32 := by omega
                    have ble_42 : Blk wi p (Sg.cs { s0 with hl := { s0.hl with id := s0.bind.take 32 } }) 33 := by
                      have h := bi
                      rw [hte, ouB_all, tkB_self (takeB ks0.bind)] at h
                      exact h
                    have kle_42 : Sg.ok { s0 with hl := { s0.hl with id := s0.bind.take 32 } } := ks0.s_hl ⟨takeB ks0.bind, ks0.hl.o, ks0.hl.p⟩
                    have tq_43 := tq_41.fx fxi (fun e => hqp e) (fun k hk => by have hk : k = p := hk; omega)
                    have br_43 := br_41.fx fxi (fun e => by omega)
                    have l_43 := bfx l_41 (by omega) fxi
                    rw [← hs0] at ble_42 kle_42
                    refine EW.region ?_
                    first | refine WL.move rfl rfl rfl ?_
                    first | refine WL.nilc rfl rfl rfl ?_
                    refine WL.field rfl rfl rfl (f115_1 q _) ?_
                    have htq34 := tq_43
                    obtain ⟨bvx34, tkx34⟩ := htq34
                    have blx34 := tkx34.bl
                    rw [decide_eq_true hsh2] at blx34
                    refine WL.load rfl rfl rfl (ldBo blx34 rfl) ?_
                    refine WL.done ?_
                    refine EW.on ?_
                    refine EW.cond_t rfl ?_
                    refine EW.seq ?_
                    refine EW.region ?_
                    refine WL.buildN [] rfl rfl rfl (bd33 _) ?_
                    obtain ⟨w9, s9, b9, f9⟩ := Sg.st (s := Sg.z) br_43 Sg.z_ok Sg.z_ok
                    refine WL.store rfl rfl rfl s9 ?_
                    first | refine WL.assign rfl rfl rfl ?_
                    refine WL.done ?_
                    refine EW.on ?_
                    refine EW.ret ?_
                    refine pr_then ?_
                    refine EW.returnsCT Try.results50 rfl rfl b9 Try.underlying33 rfl (by simpa using i33 Sg.z_ok) ⟨?_, bfx l_43 (by omega) f9⟩
                    have hE : parE c = 10 := doc_short2 h0 hv (by omega) (by omega) (by omega)
                    rw [(par_is c).1, (par_is c).2, parS, hE]
                    first | rfl | (rw [if_pos rfl]; rfl) | (rw [if_neg (by decide)]; rfl)
                  · have heT : eT c = 298 := by unfold eT; rw [hpT, hu2]; rw [if_pos (by omega)]
                    have hte : t = 32 := by omega
                    have ble_42 : Blk wi p (Sg.cs { s0 with hl := { s0.hl with id := s0.bind.take 32 } }) 33 := by
                      have h := bi
                      rw [hte, ouB_all, tkB_self (takeB ks0.bind)] at h
                      exact h
                    have kle_42 : Sg.ok { s0 with hl := { s0.hl with id := s0.bind.take 32 } } := ks0.s_hl ⟨takeB ks0.bind, ks0.hl.o, ks0.hl.p⟩
                    have tq_43 := tq_41.fx fxi (fun e => hqp e) (fun k hk => by have hk : k = p := hk; omega)
                    have br_43 := br_41.fx fxi (fun e => by omega)
                    have l_43 := bfx l_41 (by omega) fxi
                    rw [← hs0] at ble_42 kle_42
                    refine EW.region ?_
                    first | refine WL.move rfl rfl rfl ?_
                    first | refine WL.nilc rfl rfl rfl ?_
                    refine WL.field rfl rfl rfl (f115_1 q _) ?_
                    have htq34 := tq_43
                    obtain ⟨bvx34, tkx34⟩ := htq34
                    have blx34 := tkx34.bl
                    rw [decide_eq_false hsh2] at blx34
                    refine WL.load rfl rfl rfl (ldBo blx34 rfl) ?_
                    refine WL.done ?_
                    refine EW.on ?_
                    refine EW.cond_f rfl ?_
                    refine EW.skip ?_
                    refine EW.on ?_
                    refine EW.seq ?_
                    refine EW.seq ?_
                    by_cases htl2 : eT c < c.length
                    · refine EW.region ?_
                      first | refine WL.move rfl rfl rfl ?_
                      first | refine WL.nilc rfl rfl rfl ?_
                      refine WL.field rfl rfl rfl (f115_0 q _) ?_
                      have htq36 := tq_43
                      obtain ⟨bvy, tky⟩ := htq36
                      refine WL.load rfl rfl rfl (ldS tky.bl rfl) ?_
                      refine WL.len rfl rfl rfl (tky.hs.len _ _) ?_
                      refine WL.bin rfl rfl rfl rfl (int_gt_t (by rw [List.length_drop]; omega) _ _ _) ?_
                      refine WL.done ?_
                      refine EW.on ?_
                      refine EW.cond_t rfl ?_
                      refine EW.seq ?_
                      refine EW.region ?_
                      refine WL.buildN [] rfl rfl rfl (bd33 _) ?_
                      obtain ⟨w9, s9, b9, f9⟩ := Sg.st (s := Sg.z) br_43 Sg.z_ok Sg.z_ok
                      refine WL.store rfl rfl rfl s9 ?_
                      first | refine WL.assign rfl rfl rfl ?_
                      refine WL.done ?_
                      refine EW.on ?_
                      refine EW.ret ?_
                      refine pr_then ?_
                      refine EW.returnsCT Try.results50 rfl rfl b9 Try.underlying33 rfl (by simpa using i33 Sg.z_ok) ⟨?_, bfx l_43 (by omega) f9⟩
                      have hE : parE c = 11 := doc_tail h0 hv (by omega) (by omega) (by omega)
                      rw [(par_is c).1, (par_is c).2, parS, hE]
                      first | rfl | (rw [if_pos rfl]; rfl) | (rw [if_neg (by decide)]; rfl)
                    · refine EW.region ?_
                      first | refine WL.move rfl rfl rfl ?_
                      first | refine WL.nilc rfl rfl rfl ?_
                      refine WL.field rfl rfl rfl (f115_0 q _) ?_
                      have htq36 := tq_43
                      obtain ⟨bvy, tky⟩ := htq36
                      refine WL.load rfl rfl rfl (ldS tky.bl rfl) ?_
                      refine WL.len rfl rfl rfl (tky.hs.len _ _) ?_
                      refine WL.bin rfl rfl rfl rfl (int_gt_f (by rw [List.length_drop]; omega) _ _ _) ?_
                      refine WL.done ?_
                      refine EW.on ?_
                      refine EW.cond_f rfl ?_
                      refine EW.skip ?_
                      refine EW.on ?_
                      refine EW.seq ?_
                      have hgc : (Good (preS c) ∧ encD (preS c) = c) ∨ (Good (preS c) ∧ ¬ encD (preS c) = c) ∨ ¬ Good (preS c) := by
                        by_cases x1 : Good (preS c) <;> by_cases x2 : encD (preS c) = c <;> simp [x1, x2]
                      rcases hgc with ⟨hg, he⟩ | ⟨hg, he⟩ | hg
                      · have hlen : c.length = eT c := by omega
                        have hS : (⟨(tkC c 1 16), (tkC c 81 32), (tkC c 113 32), (tkC c 145 32), (tkC c 177 32), (tkC c 221 32), z32, (numB (tkC c 209 4)), (numB (tkC c 213 4)), (numB (tkC c 253 4)), 0, (numB (tkC c 257 4)), (numB (tkC c 217 4)), (⟨((tkC c 17 64).take 32), (tkC c 262 32), (numB (tkC c 294 4))⟩ : Hl), (tkC c 17 64)⟩ : Sg) = preS c := by
                          rw [pre_tk (by omega) hlen, hpT, show oT c = 261 from by unfold oT; rw [if_pos h74], if_pos h74, if_pos h74, if_pos h74, if_neg h86, if_neg h86, hu2, if_pos (by omega)]
                        have bpS : Blk wi p (preS c).cs 33 := by rw [← hS]; exact ble_42
                        have kS : (preS c).ok := by rw [← hS]; exact kle_42
                        have hfin := doc_fin h0 hv (by omega) (by omega) hlen
                        refine EW.region ?_
                        refine WL.load rfl rfl rfl (Sg.ld bpS kS) ?_
                        refine WL.call [(preS c).v] enter47 rfl rfl rfl (rcheck_any _ kS _) ?_
                        rintro _ w38 ⟨rfl, e38⟩
                        rw [chkD, if_pos hg]
                        refine ⟨_, rfl, ?_⟩
                        have bp38 := bpS.on e38
                        have tq_44 := tq_43.below e38
                        have br_44 := br_43.on e38
                        have l_44 := bt l_43 e38
                        first | refine WL.assign rfl rfl rfl ?_
                        refine WL.done ?_
                        refine EW.on ?_
                        refine EW.seq ?_
                        refine EW.seq ?_
                        refine EW.ordB [(0, 0, 0), (1, 0, 0), (2, 0, 0), (3, 0, 1), (6, 0, 0), (7, 0, 1), (4, 1, 1), (5, 2, 0), (8, 0, 0), (9, 0, 0)] (by kernel_rfl) rfl (by kernel_rfl) ?_
                        simp only [opsZ, List.getD_cons_zero, List.getD_cons_succ]
                        first | refine ZE.move rfl rfl rfl rfl sz0 ?_
                        refine ZE.bin rfl rfl rfl rfl rfl sz0 (fun W => int_eq_t rfl W _ _) ?_
                        first | refine ZE.move rfl rfl rfl rfl sz0 ?_
                        refine ZE.load rfl rfl rfl rfl sz1 (fun W hW => Sg.ld (bp38.on (sb_of hW)) kS) ?_
                        refine ZE.move rfl rfl rfl rfl sz0 ?_
                        refine ZE.conv rfl rfl rfl rfl sz1 (fun W hW => ((hb.below l_44).below (sb_of hW)).convert) ?_
                        refine ZE.callR [(preS c).v] (fun v W => Ob W w38.heap.size v (encD (preS c)) ∧ Below w38.heap.size w38 W) enter65 rfl rfl rfl (fun _ _ h => .inr h.2) (fun W hW => (written_any _ kS W).mono fun e w' ⟨v, g1, g2, g3⟩ => ⟨v, g1, g2.lower hW.size, bt hW g3⟩) ?_
                        rintro vo ⟨_, _⟩
                        refine ZE.conv rfl rfl rfl rfl szC (fun W hW => hW.1.has.convert) ?_
                        refine ZE.bin rfl rfl rfl rfl rfl sz0 (fun W => (str_ne_d _ _ W _ _).trans (by rw [decide_eq_false (show ¬ ¬ encD (preS c) = c from fun h => h he)])) ?_
                        refine ZE.pick rfl rfl rfl rfl rfl sz0 ?_
                        intro w39 h39
                        have e39 := h39.2
                        have bp_45 := bp38.on e39
                        have tq_45 := tq_44.below e39
                        have br_45 := br_44.on e39
                        have l_45 := bt l_44 e39
                        refine EW.on ?_
                        refine EW.cond_f rfl ?_
                        refine EW.skip ?_
                        refine EW.on ?_
                        refine EW.seq ?_
                        refine EW.seq ?_
                        refine EW.region ?_
                        first | refine WL.move rfl rfl rfl ?_
                        refine WL.bin rfl rfl rfl rfl (int_ne_f rfl _ _ _) ?_
                        refine WL.done ?_
                        refine EW.on ?_
                        refine EW.cond_f rfl ?_
                        refine EW.skip ?_
                        refine EW.on ?_
                        refine EW.seq ?_
                        refine EW.region ?_
                        refine WL.load rfl rfl rfl (Sg.ld bp_45 kS) ?_
                        obtain ⟨w9, s9, b9, f9⟩ := Sg.st (s := (preS c)) br_45 Sg.z_ok kS
                        refine WL.store rfl rfl rfl s9 ?_
                        first | refine WL.assign rfl rfl rfl ?_
                        refine WL.done ?_
                        refine EW.on ?_
                        refine EW.ret ?_
                        refine EW.returnsCT Try.results50 rfl rfl b9 Try.underlying33 rfl (by simpa using i33 kS) ⟨?_, bfx l_45 (by omega) f9⟩
                        have hE : parE c = 0 := by rw [hfin, if_pos ⟨hg, he⟩]
                        rw [(par_is c).1, (par_is c).2, parS, hE]
                        first | rfl | (rw [if_pos rfl]; rfl) | (rw [if_neg (by decide)]; rfl)
                      · have hlen : c.length = eT c := by omega
                        have hS : (⟨(tkC c 1 16), (tkC c 81 32), (tkC c 113 32), (tkC c 145 32), (tkC c 177 32), (tkC c 221 32), z32, (numB (tkC c 209 4)), (numB (tkC c 213 4)), (numB (tkC c 253 4)), 0, (numB (tkC c 257 4)), (numB (tkC c 217 4)), (⟨((tkC c 17 64).take 32), (tkC c 262 32), (numB (tkC c 294 4))⟩ : Hl), (tkC c 17 64)⟩ : Sg) = preS c := by
                          rw [pre_tk (by omega) hlen, hpT, show oT c = 261 from by unfold oT; rw [if_pos h74], if_pos h74, if_pos h74, if_pos h74, if_neg h86, if_neg h86, hu2, if_pos (by omega)]
                        have bpS : Blk wi p (preS c).cs 33 := by rw [← hS]; exact ble_42
                        have kS : (preS c).ok := by rw [← hS]; exact kle_42
                        have hfin := doc_fin h0 hv (by omega) (by omega) hlen
                        refine EW.region ?_
                        refine WL.load rfl rfl rfl (Sg.ld bpS kS) ?_
                        refine WL.call [(preS c).v] enter47 rfl rfl rfl (rcheck_any _ kS _) ?_
                        rintro _ w38 ⟨rfl, e38⟩
                        rw [chkD, if_pos hg]
                        refine ⟨_, rfl, ?_⟩
                        have bp38 := bpS.on e38
                        have tq_44 := tq_43.below e38
                        have br_44 := br_43.on e38
                        have l_44 := bt l_43 e38
                        first | refine WL.assign rfl rfl rfl ?_
                        refine WL.done ?_
                        refine EW.on ?_
                        refine EW.seq ?_
                        refine EW.seq ?_
                        refine EW.ordB [(0, 0, 0), (1, 0, 0), (2, 0, 0), (3, 0, 1), (6, 0, 0), (7, 0, 1), (4, 1, 1), (5, 2, 0), (8, 0, 0), (9, 0, 0)] (by kernel_rfl) rfl (by kernel_rfl) ?_
                        simp only [opsZ, List.getD_cons_zero, List.getD_cons_succ]
                        first | refine ZE.move rfl rfl rfl rfl sz0 ?_
                        refine ZE.bin rfl rfl rfl rfl rfl sz0 (fun W => int_eq_t rfl W _ _) ?_
                        first | refine ZE.move rfl rfl rfl rfl sz0 ?_
                        refine ZE.load rfl rfl rfl rfl sz1 (fun W hW => Sg.ld (bp38.on (sb_of hW)) kS) ?_
                        refine ZE.move rfl rfl rfl rfl sz0 ?_
                        refine ZE.conv rfl rfl rfl rfl sz1 (fun W hW => ((hb.below l_44).below (sb_of hW)).convert) ?_
                        refine ZE.callR [(preS c).v] (fun v W => Ob W w38.heap.size v (encD (preS c)) ∧ Below w38.heap.size w38 W) enter65 rfl rfl rfl (fun _ _ h => .inr h.2) (fun W hW => (written_any _ kS W).mono fun e w' ⟨v, g1, g2, g3⟩ => ⟨v, g1, g2.lower hW.size, bt hW g3⟩) ?_
                        rintro vo ⟨_, _⟩
                        refine ZE.conv rfl rfl rfl rfl szC (fun W hW => hW.1.has.convert) ?_
                        refine ZE.bin rfl rfl rfl rfl rfl sz0 (fun W => (str_ne_d _ _ W _ _).trans (by rw [decide_eq_true he])) ?_
                        refine ZE.pick rfl rfl rfl rfl rfl sz0 ?_
                        intro w39 h39
                        have e39 := h39.2
                        have bp_45 := bp38.on e39
                        have tq_45 := tq_44.below e39
                        have br_45 := br_44.on e39
                        have l_45 := bt l_44 e39
                        refine EW.on ?_
                        refine EW.cond_t rfl ?_
                        refine EW.region ?_
                        first | refine WL.assign rfl rfl rfl ?_
                        refine WL.done ?_
                        refine EW.on ?_
                        refine EW.seq ?_
                        refine EW.seq ?_
                        refine EW.region ?_
                        first | refine WL.move rfl rfl rfl ?_
                        refine WL.bin rfl rfl rfl rfl (int_ne_t (by decide) _ _ _) ?_
                        refine WL.done ?_
                        refine EW.on ?_
                        refine EW.cond_t rfl ?_
                        refine EW.seq ?_
                        refine EW.region ?_
                        refine WL.buildN [] rfl rfl rfl (bd33 _) ?_
                        first | refine WL.move rfl rfl rfl ?_
                        obtain ⟨w9, s9, b9, f9⟩ := Sg.st (s := Sg.z) br_45 Sg.z_ok Sg.z_ok
                        refine WL.store rfl rfl rfl s9 ?_
                        first | refine WL.assign rfl rfl rfl ?_
                        refine WL.done ?_
                        refine EW.on ?_
                        refine EW.ret ?_
                        refine pr_then ?_
                        refine EW.returnsCT Try.results50 rfl rfl b9 Try.underlying33 rfl (by simpa using i33 Sg.z_ok) ⟨?_, bfx l_45 (by omega) f9⟩
                        have hE : parE c = 180 := by rw [hfin, if_neg (fun h => he h.2)]
                        rw [(par_is c).1, (par_is c).2, parS, hE]
                        first | rfl | (rw [if_pos rfl]; rfl) | (rw [if_neg (by decide)]; rfl)
                      · have hlen : c.length = eT c := by omega
                        have hS : (⟨(tkC c 1 16), (tkC c 81 32), (tkC c 113 32), (tkC c 145 32), (tkC c 177 32), (tkC c 221 32), z32, (numB (tkC c 209 4)), (numB (tkC c 213 4)), (numB (tkC c 253 4)), 0, (numB (tkC c 257 4)), (numB (tkC c 217 4)), (⟨((tkC c 17 64).take 32), (tkC c 262 32), (numB (tkC c 294 4))⟩ : Hl), (tkC c 17 64)⟩ : Sg) = preS c := by
                          rw [pre_tk (by omega) hlen, hpT, show oT c = 261 from by unfold oT; rw [if_pos h74], if_pos h74, if_pos h74, if_pos h74, if_neg h86, if_neg h86, hu2, if_pos (by omega)]
                        have bpS : Blk wi p (preS c).cs 33 := by rw [← hS]; exact ble_42
                        have kS : (preS c).ok := by rw [← hS]; exact kle_42
                        have hfin := doc_fin h0 hv (by omega) (by omega) hlen
                        refine EW.region ?_
                        refine WL.load rfl rfl rfl (Sg.ld bpS kS) ?_
                        refine WL.call [(preS c).v] enter47 rfl rfl rfl (rcheck_any _ kS _) ?_
                        rintro _ w38 ⟨rfl, e38⟩
                        rw [chkD, if_neg hg]
                        refine ⟨_, rfl, ?_⟩
                        have bp38 := bpS.on e38
                        have tq_44 := tq_43.below e38
                        have br_44 := br_43.on e38
                        have l_44 := bt l_43 e38
                        first | refine WL.assign rfl rfl rfl ?_
                        refine WL.done ?_
                        refine EW.on ?_
                        refine EW.seq ?_
                        refine EW.seq ?_
                        refine EW.ordB [(0, 0, 0), (1, 0, 0), (2, 0, 0), (3, 0, 1), (4, 0, 0), (5, 2, 0), (6, 0, 0), (7, 0, 1), (8, 0, 0), (9, 0, 0)] (by kernel_rfl) rfl (by kernel_rfl) ?_
                        simp only [opsZ, List.getD_cons_zero, List.getD_cons_succ]
                        first | refine ZE.move rfl rfl rfl rfl sz0 ?_
                        refine ZE.bin rfl rfl rfl rfl rfl sz0 (fun W => int_eq_f (by decide) W _ _) ?_
                        first | refine ZE.move rfl rfl rfl rfl sz0 ?_
                        refine ZE.skip rfl rfl rfl sz1 ?_
                        refine ZE.skip rfl rfl rfl sz0 ?_
                        refine ZE.skip rfl rfl rfl szC ?_
                        refine ZE.skip rfl rfl rfl sz0 ?_
                        refine ZE.skip rfl rfl rfl sz1 ?_
                        refine ZE.skip rfl rfl rfl sz0 ?_
                        refine ZE.pick rfl rfl rfl rfl rfl sz0 ?_
                        intro w39 e39
                        have bp_45 := bp38.on e39
                        have tq_45 := tq_44.below e39
                        have br_45 := br_44.on e39
                        have l_45 := bt l_44 e39
                        refine EW.on ?_
                        refine EW.cond_f rfl ?_
                        refine EW.skip ?_
                        refine EW.on ?_
                        refine EW.seq ?_
                        refine EW.seq ?_
                        refine EW.region ?_
                        first | refine WL.move rfl rfl rfl ?_
                        refine WL.bin rfl rfl rfl rfl (int_ne_t (by decide) _ _ _) ?_
                        refine WL.done ?_
                        refine EW.on ?_
                        refine EW.cond_t rfl ?_
                        refine EW.seq ?_
                        refine EW.region ?_
                        refine WL.buildN [] rfl rfl rfl (bd33 _) ?_
                        first | refine WL.move rfl rfl rfl ?_
                        obtain ⟨w9, s9, b9, f9⟩ := Sg.st (s := Sg.z) br_45 Sg.z_ok Sg.z_ok
                        refine WL.store rfl rfl rfl s9 ?_
                        first | refine WL.assign rfl rfl rfl ?_
                        refine WL.done ?_
                        refine EW.on ?_
                        refine EW.ret ?_
                        refine pr_then ?_
                        refine EW.returnsCT Try.results50 rfl rfl b9 Try.underlying33 rfl (by simpa using i33 Sg.z_ok) ⟨?_, bfx l_45 (by omega) f9⟩
                        have hE : parE c = 180 := by rw [hfin, if_neg (fun h => hg h.1)]
                        rw [(par_is c).1, (par_is c).2, parS, hE]
                        first | rfl | (rw [if_pos rfl]; rfl) | (rw [if_neg (by decide)]; rfl)
              · have hmm : numB (tkC c (pT c) 1) = u.toNat := by rw [hpT]; exact hu2
                refine EW.region ?_
                first | refine WL.move rfl rfl rfl ?_
                refine WL.bin rfl rfl rfl rfl (bgt_t (by omega) _ _ _) ?_
                refine WL.done ?_
                refine EW.on ?_
                refine EW.cond_t rfl ?_
                refine EW.seq ?_
                refine EW.region ?_
                refine WL.buildN [] rfl rfl rfl (bd33 _) ?_
                obtain ⟨w9, s9, b9, f9⟩ := Sg.st (s := Sg.z) br_35 Sg.z_ok Sg.z_ok
                refine WL.store rfl rfl rfl s9 ?_
                first | refine WL.assign rfl rfl rfl ?_
                refine WL.done ?_
                refine EW.on ?_
                refine EW.ret ?_
                refine pr_then ?_
                refine EW.returnsCT Try.results50 rfl rfl b9 Try.underlying33 rfl (by simpa using i33 Sg.z_ok) ⟨?_, bfx l_35 (by omega) f9⟩
                have hE : parE c = 180 := doc_bad h0 hv (by omega) (by omega)
                rw [(par_is c).1, (par_is c).2, parS, hE]
                first | rfl | (rw [if_pos rfl]; rfl) | (rw [if_neg (by decide)]; rfl)
        · refine EW.skip ?_
          refine EW.on ?_
          refine EW.seq ?_
          refine EW.seq ?_
          refine EW.region ?_
          first | refine WL.field rfl rfl rfl (f33_7 p _) ?_
          first | refine WL.load rfl rfl rfl (Sg.ld_turns bc_24 k_24) ?_
          refine WL.bin rfl rfl rfl rfl (u_gt_d (numB (tkC c 213 4)) 0 _ _ _) ?_
          refine WL.done ?_
          refine EW.on ?_
          refine EW.cond_d rfl (fun h86 => ?_) (fun h86 => ?_)
          · refine EW.region ?_
            first | refine WL.move rfl rfl rfl ?_
            have lsz26 := l_25.size
            refine WL.call [.pointer (some ⟨q, 0, none⟩)] enter67 rfl rfl rfl (tq_key B q 221 c _ tq_25 (by omega) hl) ?_
            rintro _ wc26 ⟨rfl, tq26', fc26⟩
            refine ⟨_, rfl, ?_⟩
            have tq_26 : Tq wc26 B q c 253 := tq26'
            have bp_26 := bc_24.fx fc26 (fun e => hqp e.symm)
            have br_26 := br_25.fx fc26 (fun e => by omega)
            have l_26 := bfx l_25 (by omega) fc26
            have lc26 := fc26.size
            first | refine WL.move rfl rfl rfl ?_
            have lsz27 := l_26.size
            refine WL.call [.pointer (some ⟨q, 0, none⟩)] enter68 rfl rfl rfl (tq_four B q 253 c _ tq_26 (by omega) hl) ?_
            rintro _ wc27 ⟨rfl, tq27', fc27⟩
            refine ⟨_, rfl, ?_⟩
            have tq_27 : Tq wc27 B q c 257 := tq27'
            have bp_27 := bp_26.fx fc27 (fun e => hqp e.symm)
            have br_27 := br_26.fx fc27 (fun e => by omega)
            have l_27 := bfx l_26 (by omega) fc27
            have lc27 := fc27.size
            first | refine WL.field rfl rfl rfl (f33_5 p _) ?_
            obtain ⟨w_28, s_28, bb_28, fx_28⟩ := Sg.st_rk bp_27 k_24 (x := (tkC c 221 32)) (tkC_len _ _ _)
            have bc_28 : Blk w_28 p (Sg.cs (⟨(tkC c 1 16), (tkC c 81 32), (tkC c 113 32), (tkC c 145 32), (tkC c 177 32), z32, (tkC c 221 32), (numB (tkC c 209 4)), (numB (tkC c 213 4)), 0, 0, 0, (numB (tkC c 217 4)), Hl.z, (tkC c 17 64)⟩ : Sg)) 33 := bb_28
            have k_28 : Sg.ok (⟨(tkC c 1 16), (tkC c 81 32), (tkC c 113 32), (tkC c 145 32), (tkC c 177 32), z32, (tkC c 221 32), (numB (tkC c 209 4)), (numB (tkC c 213 4)), 0, 0, 0, (numB (tkC c 217 4)), Hl.z, (tkC c 17 64)⟩ : Sg) := k_24.s_rk (x := (tkC c 221 32)) (tkC_len _ _ _)
            clear bb_28
            refine WL.store rfl rfl rfl s_28 ?_
            have tq_29 := tq_27.fx fx_28 (fun e => hqp e) (fun k hk => by have hk : k = p := hk; omega)
            have br_29 := br_27.fx fx_28 (fun e => by omega)
            have l_29 := bfx l_27 (by omega) fx_28
            first | refine WL.field rfl rfl rfl (f33_9 p _) ?_
            obtain ⟨w_30, s_30, bb_30, fx_30⟩ := Sg.st_got bc_28 k_28 ((numB (tkC c 253 4)))
            have bc_30 : Blk w_30 p (Sg.cs (⟨(tkC c 1 16), (tkC c 81 32), (tkC c 113 32), (tkC c 145 32), (tkC c 177 32), z32, (tkC c 221 32), (numB (tkC c 209 4)), (numB (tkC c 213 4)), 0, (numB (tkC c 253 4)), 0, (numB (tkC c 217 4)), Hl.z, (tkC c 17 64)⟩ : Sg)) 33 := bb_30
            have k_30 : Sg.ok (⟨(tkC c 1 16), (tkC c 81 32), (tkC c 113 32), (tkC c 145 32), (tkC c 177 32), z32, (tkC c 221 32), (numB (tkC c 209 4)), (numB (tkC c 213 4)), 0, (numB (tkC c 253 4)), 0, (numB (tkC c 217 4)), Hl.z, (tkC c 17 64)⟩ : Sg) := k_28.s_got (x := (numB (tkC c 253 4))) (numB_32 _ (Nat.le_of_eq (tkC_len _ _ _)))
            clear bb_30
            refine WL.store rfl rfl rfl s_30 ?_
            have tq_31 := tq_29.fx fx_30 (fun e => hqp e) (fun k hk => by have hk : k = p := hk; omega)
            have br_31 := br_29.fx fx_30 (fun e => by omega)
            have l_31 := bfx l_29 (by omega) fx_30
            refine WL.done ?_
            refine EW.on ?_
            refine EW.seq ?_
            refine EW.region ?_
            first | refine WL.move rfl rfl rfl ?_
            have lsz32 := l_31.size
            refine WL.call [.pointer (some ⟨q, 0, none⟩), .int .i64 1] enter66 rfl rfl rfl (tq_take B q 1 257 c _ tq_31 (by omega) (by decide) (by decide) hl) ?_
            rintro _ wc32 ⟨vt32, rfl, ot32, tq32', fc32⟩
            refine ⟨_, rfl, ?_⟩
            have tq_32 : Tq wc32 B q c 258 := tq32'
            have bp_32 := bc_30.fx fc32 (fun e => hqp e.symm)
            have br_32 := br_31.fx fc32 (fun e => by omega)
            have l_32 := bfx l_31 (by omega) fc32
            have lc32 := fc32.size
            obtain ⟨u, hu1, hu2⟩ := tk1 c 257
            rw [hu1] at ot32
            obtain ⟨adm, ium, lum⟩ := ot32.has.item (i := 0) (u := u) rfl
            refine WL.index rfl rfl rfl rfl (ium _) ?_
            refine WL.load rfl rfl rfl lum ?_
            first | refine WL.assign rfl rfl rfl ?_
            refine WL.done ?_
            refine EW.on ?_
            refine EW.seq ?_
            refine EW.seq ?_
            by_cases hsh : c.length < 258
            · have hpT : pT c = 257 := by unfold pT oT; rw [if_pos h86, if_neg h74]
              refine EW.region ?_
              first | refine WL.move rfl rfl rfl ?_
              first | refine WL.nilc rfl rfl rfl ?_
              refine WL.field rfl rfl rfl (f115_1 q _) ?_
              have htq24 := tq_32
              obtain ⟨bvx24, tkx24⟩ := htq24
              have blx24 := tkx24.bl
              rw [decide_eq_true hsh] at blx24
              refine WL.load rfl rfl rfl (ldBo blx24 rfl) ?_
              refine WL.done ?_
              refine EW.on ?_
              refine EW.cond_t rfl ?_
              refine EW.seq ?_
              refine EW.region ?_
              refine WL.buildN [] rfl rfl rfl (bd33 _) ?_
              obtain ⟨w9, s9, b9, f9⟩ := Sg.st (s := Sg.z) br_32 Sg.z_ok Sg.z_ok
              refine WL.store rfl rfl rfl s9 ?_
              first | refine WL.assign rfl rfl rfl ?_
              refine WL.done ?_
              refine EW.on ?_
              refine EW.ret ?_
              refine pr_then ?_
              refine EW.returnsCT Try.results50 rfl rfl b9 Try.underlying33 rfl (by simpa using i33 Sg.z_ok) ⟨?_, bfx l_32 (by omega) f9⟩
              have hE : parE c = 10 := doc_short h0 hv (by omega)
              rw [(par_is c).1, (par_is c).2, parS, hE]
              first | rfl | (rw [if_pos rfl]; rfl) | (rw [if_neg (by decide)]; rfl)
            · have hpT : pT c = 257 := by unfold pT oT; rw [if_pos h86, if_neg h74]
              refine EW.region ?_
              first | refine WL.move rfl rfl rfl ?_
              first | refine WL.nilc rfl rfl rfl ?_
              refine WL.field rfl rfl rfl (f115_1 q _) ?_
              have htq24 := tq_32
              obtain ⟨bvx24, tkx24⟩ := htq24
              have blx24 := tkx24.bl
              rw [decide_eq_false hsh] at blx24
              refine WL.load rfl rfl rfl (ldBo blx24 rfl) ?_
              refine WL.done ?_
              refine EW.on ?_
              refine EW.cond_f rfl ?_
              refine EW.skip ?_
              refine EW.on ?_
              refine EW.seq ?_
              refine EW.seq ?_
              have hmc : u.toNat = 0 ∨ u.toNat = 1 ∨ 1 < u.toNat := by omega
              rcases hmc with hmc | hmc | hmc
              · have hmm : numB (tkC c (pT c) 1) = u.toNat := by rw [hpT]; exact hu2
                refine EW.region ?_
                first | refine WL.move rfl rfl rfl ?_
                refine WL.bin rfl rfl rfl rfl (bgt_f (by omega) _ _ _) ?_
                refine WL.done ?_
                refine EW.on ?_
                refine EW.cond_f rfl ?_
                refine EW.skip ?_
                refine EW.on ?_
                refine EW.seq ?_
                refine EW.seq ?_
                refine EW.region ?_
                first | refine WL.move rfl rfl rfl ?_
                refine WL.bin rfl rfl rfl rfl (beq_f (by omega) _ _ _) ?_
                refine WL.done ?_
                refine EW.on ?_
                refine EW.cond_f rfl ?_
                refine EW.skip ?_
                refine EW.on ?_
                refine EW.seq ?_
                refine EW.seq ?_
                by_cases hsh2 : c.length < 258
                · have heT : eT c = 258 := by unfold eT; rw [hpT, hu2]; rw [if_neg (by omega)]
                  refine EW.region ?_
                  first | refine WL.move rfl rfl rfl ?_
                  first | refine WL.nilc rfl rfl rfl ?_
                  refine WL.field rfl rfl rfl (f115_1 q _) ?_
                  have htq34 := tq_32
                  obtain ⟨bvx34, tkx34⟩ := htq34
                  have blx34 := tkx34.bl
                  rw [decide_eq_true hsh2] at blx34
                  refine WL.load rfl rfl rfl (ldBo blx34 rfl) ?_
                  refine WL.done ?_
                  refine EW.on ?_
                  refine EW.cond_t rfl ?_
                  refine EW.seq ?_
                  refine EW.region ?_
                  refine WL.buildN [] rfl rfl rfl (bd33 _) ?_
                  obtain ⟨w9, s9, b9, f9⟩ := Sg.st (s := Sg.z) br_32 Sg.z_ok Sg.z_ok
                  refine WL.store rfl rfl rfl s9 ?_
                  first | refine WL.assign rfl rfl rfl ?_
                  refine WL.done ?_
                  refine EW.on ?_
                  refine EW.ret ?_
                  refine pr_then ?_
                  refine EW.returnsCT Try.results50 rfl rfl b9 Try.underlying33 rfl (by simpa using i33 Sg.z_ok) ⟨?_, bfx l_32 (by omega) f9⟩
                  have hE : parE c = 10 := doc_short2 h0 hv (by omega) (by omega) (by omega)
                  rw [(par_is c).1, (par_is c).2, parS, hE]
                  first | rfl | (rw [if_pos rfl]; rfl) | (rw [if_neg (by decide)]; rfl)
                · have heT : eT c = 258 := by unfold eT; rw [hpT, hu2]; rw [if_neg (by omega)]
                  refine EW.region ?_
                  first | refine WL.move rfl rfl rfl ?_
                  first | refine WL.nilc rfl rfl rfl ?_
                  refine WL.field rfl rfl rfl (f115_1 q _) ?_
                  have htq34 := tq_32
                  obtain ⟨bvx34, tkx34⟩ := htq34
                  have blx34 := tkx34.bl
                  rw [decide_eq_false hsh2] at blx34
                  refine WL.load rfl rfl rfl (ldBo blx34 rfl) ?_
                  refine WL.done ?_
                  refine EW.on ?_
                  refine EW.cond_f rfl ?_
                  refine EW.skip ?_
                  refine EW.on ?_
                  refine EW.seq ?_
                  refine EW.seq ?_
                  by_cases htl2 : eT c < c.length
                  · refine EW.region ?_
                    first | refine WL.move rfl rfl rfl ?_
                    first | refine WL.nilc rfl rfl rfl ?_
                    refine WL.field rfl rfl rfl (f115_0 q _) ?_
                    have htq36 := tq_32
                    obtain ⟨bvy, tky⟩ := htq36
                    refine WL.load rfl rfl rfl (ldS tky.bl rfl) ?_
                    refine WL.len rfl rfl rfl (tky.hs.len _ _) ?_
                    refine WL.bin rfl rfl rfl rfl (int_gt_t (by rw [List.length_drop]; omega) _ _ _) ?_
                    refine WL.done ?_
                    refine EW.on ?_
                    refine EW.cond_t rfl ?_
                    refine EW.seq ?_
                    refine EW.region ?_
                    refine WL.buildN [] rfl rfl rfl (bd33 _) ?_
                    obtain ⟨w9, s9, b9, f9⟩ := Sg.st (s := Sg.z) br_32 Sg.z_ok Sg.z_ok
                    refine WL.store rfl rfl rfl s9 ?_
                    first | refine WL.assign rfl rfl rfl ?_
                    refine WL.done ?_
                    refine EW.on ?_
                    refine EW.ret ?_
                    refine pr_then ?_
                    refine EW.returnsCT Try.results50 rfl rfl b9 Try.underlying33 rfl (by simpa using i33 Sg.z_ok) ⟨?_, bfx l_32 (by omega) f9⟩
                    have hE : parE c = 11 := doc_tail h0 hv (by omega) (by omega) (by omega)
                    rw [(par_is c).1, (par_is c).2, parS, hE]
                    first | rfl | (rw [if_pos rfl]; rfl) | (rw [if_neg (by decide)]; rfl)
                  · refine EW.region ?_
                    first | refine WL.move rfl rfl rfl ?_
                    first | refine WL.nilc rfl rfl rfl ?_
                    refine WL.field rfl rfl rfl (f115_0 q _) ?_
                    have htq36 := tq_32
                    obtain ⟨bvy, tky⟩ := htq36
                    refine WL.load rfl rfl rfl (ldS tky.bl rfl) ?_
                    refine WL.len rfl rfl rfl (tky.hs.len _ _) ?_
                    refine WL.bin rfl rfl rfl rfl (int_gt_f (by rw [List.length_drop]; omega) _ _ _) ?_
                    refine WL.done ?_
                    refine EW.on ?_
                    refine EW.cond_f rfl ?_
                    refine EW.skip ?_
                    refine EW.on ?_
                    refine EW.seq ?_
                    have hgc : (Good (preS c) ∧ encD (preS c) = c) ∨ (Good (preS c) ∧ ¬ encD (preS c) = c) ∨ ¬ Good (preS c) := by
                      by_cases x1 : Good (preS c) <;> by_cases x2 : encD (preS c) = c <;> simp [x1, x2]
                    rcases hgc with ⟨hg, he⟩ | ⟨hg, he⟩ | hg
                    · have hlen : c.length = eT c := by omega
                      have hS : (⟨(tkC c 1 16), (tkC c 81 32), (tkC c 113 32), (tkC c 145 32), (tkC c 177 32), z32, (tkC c 221 32), (numB (tkC c 209 4)), (numB (tkC c 213 4)), 0, (numB (tkC c 253 4)), 0, (numB (tkC c 217 4)), Hl.z, (tkC c 17 64)⟩ : Sg) = preS c := by
                        rw [pre_tk (by omega) hlen, hpT, show oT c = 221 from by unfold oT; rw [if_neg h74], if_neg h74, if_neg h74, if_neg h74, if_pos h86, if_pos h86, hu2, if_neg (by omega)]
                      have bpS : Blk wc32 p (preS c).cs 33 := by rw [← hS]; exact bp_32
                      have kS : (preS c).ok := by rw [← hS]; exact k_30
                      have hfin := doc_fin h0 hv (by omega) (by omega) hlen
                      refine EW.region ?_
                      refine WL.load rfl rfl rfl (Sg.ld bpS kS) ?_
                      refine WL.call [(preS c).v] enter47 rfl rfl rfl (rcheck_any _ kS _) ?_
                      rintro _ w38 ⟨rfl, e38⟩
                      rw [chkD, if_pos hg]
                      refine ⟨_, rfl, ?_⟩
                      have bp38 := bpS.on e38
                      have tq_33 := tq_32.below e38
                      have br_33 := br_32.on e38
                      have l_33 := bt l_32 e38
                      first | refine WL.assign rfl rfl rfl ?_
                      refine WL.done ?_
                      refine EW.on ?_
                      refine EW.seq ?_
                      refine EW.seq ?_
                      refine EW.ordB [(0, 0, 0), (1, 0, 0), (2, 0, 0), (3, 0, 1), (6, 0, 0), (7, 0, 1), (4, 1, 1), (5, 2, 0), (8, 0, 0), (9, 0, 0)] (by kernel_rfl) rfl (by kernel_rfl) ?_
                      simp only [opsZ, List.getD_cons_zero, List.getD_cons_succ]
                      first | refine ZE.move rfl rfl rfl rfl sz0 ?_
                      refine ZE.bin rfl rfl rfl rfl rfl sz0 (fun W => int_eq_t rfl W _ _) ?_
                      first | refine ZE.move rfl rfl rfl rfl sz0 ?_
                      refine ZE.load rfl rfl rfl rfl sz1 (fun W hW => Sg.ld (bp38.on (sb_of hW)) kS) ?_
                      refine ZE.move rfl rfl rfl rfl sz0 ?_
                      refine ZE.conv rfl rfl rfl rfl sz1 (fun W hW => ((hb.below l_33).below (sb_of hW)).convert) ?_
                      refine ZE.callR [(preS c).v] (fun v W => Ob W w38.heap.size v (encD (preS c)) ∧ Below w38.heap.size w38 W) enter65 rfl rfl rfl (fun _ _ h => .inr h.2) (fun W hW => (written_any _ kS W).mono fun e w' ⟨v, g1, g2, g3⟩ => ⟨v, g1, g2.lower hW.size, bt hW g3⟩) ?_
                      rintro vo ⟨_, _⟩
                      refine ZE.conv rfl rfl rfl rfl szC (fun W hW => hW.1.has.convert) ?_
                      refine ZE.bin rfl rfl rfl rfl rfl sz0 (fun W => (str_ne_d _ _ W _ _).trans (by rw [decide_eq_false (show ¬ ¬ encD (preS c) = c from fun h => h he)])) ?_
                      refine ZE.pick rfl rfl rfl rfl rfl sz0 ?_
                      intro w39 h39
                      have e39 := h39.2
                      have bp_34 := bp38.on e39
                      have tq_34 := tq_33.below e39
                      have br_34 := br_33.on e39
                      have l_34 := bt l_33 e39
                      refine EW.on ?_
                      refine EW.cond_f rfl ?_
                      refine EW.skip ?_
                      refine EW.on ?_
                      refine EW.seq ?_
                      refine EW.seq ?_
                      refine EW.region ?_
                      first | refine WL.move rfl rfl rfl ?_
                      refine WL.bin rfl rfl rfl rfl (int_ne_f rfl _ _ _) ?_
                      refine WL.done ?_
                      refine EW.on ?_
                      refine EW.cond_f rfl ?_
                      refine EW.skip ?_
                      refine EW.on ?_
                      refine EW.seq ?_
                      refine EW.region ?_
                      refine WL.load rfl rfl rfl (Sg.ld bp_34 kS) ?_
                      obtain ⟨w9, s9, b9, f9⟩ := Sg.st (s := (preS c)) br_34 Sg.z_ok kS
                      refine WL.store rfl rfl rfl s9 ?_
                      first | refine WL.assign rfl rfl rfl ?_
                      refine WL.done ?_
                      refine EW.on ?_
                      refine EW.ret ?_
                      refine EW.returnsCT Try.results50 rfl rfl b9 Try.underlying33 rfl (by simpa using i33 kS) ⟨?_, bfx l_34 (by omega) f9⟩
                      have hE : parE c = 0 := by rw [hfin, if_pos ⟨hg, he⟩]
                      rw [(par_is c).1, (par_is c).2, parS, hE]
                      first | rfl | (rw [if_pos rfl]; rfl) | (rw [if_neg (by decide)]; rfl)
                    · have hlen : c.length = eT c := by omega
                      have hS : (⟨(tkC c 1 16), (tkC c 81 32), (tkC c 113 32), (tkC c 145 32), (tkC c 177 32), z32, (tkC c 221 32), (numB (tkC c 209 4)), (numB (tkC c 213 4)), 0, (numB (tkC c 253 4)), 0, (numB (tkC c 217 4)), Hl.z, (tkC c 17 64)⟩ : Sg) = preS c := by
                        rw [pre_tk (by omega) hlen, hpT, show oT c = 221 from by unfold oT; rw [if_neg h74], if_neg h74, if_neg h74, if_neg h74, if_pos h86, if_pos h86, hu2, if_neg (by omega)]
                      have bpS : Blk wc32 p (preS c).cs 33 := by rw [← hS]; exact bp_32
                      have kS : (preS c).ok := by rw [← hS]; exact k_30
                      have hfin := doc_fin h0 hv (by omega) (by omega) hlen
                      refine EW.region ?_
                      refine WL.load rfl rfl rfl (Sg.ld bpS kS) ?_
                      refine WL.call [(preS c).v] enter47 rfl rfl rfl (rcheck_any _ kS _) ?_
                      rintro _ w38 ⟨rfl, e38⟩
                      rw [chkD, if_pos hg]
                      refine ⟨_, rfl, ?_⟩
                      have bp38 := bpS.on e38
                      have tq_33 := tq_32.below e38
                      have br_33 := br_32.on e38
                      have l_33 := bt l_32 e38
                      first | refine WL.assign rfl rfl rfl ?_
                      refine WL.done ?_
                      refine EW.on ?_
                      refine EW.seq ?_
                      refine EW.seq ?_
                      refine EW.ordB [(0, 0, 0), (1, 0, 0), (2, 0, 0), (3, 0, 1), (6, 0, 0), (7, 0, 1), (4, 1, 1), (5, 2, 0), (8, 0, 0), (9, 0, 0)] (by kernel_rfl) rfl (by kernel_rfl) ?_
                      simp only [opsZ, List.getD_cons_zero, List.getD_cons_succ]
                      first | refine ZE.move rfl rfl rfl rfl sz0 ?_
                      refine ZE.bin rfl rfl rfl rfl rfl sz0 (fun W => int_eq_t rfl W _ _) ?_
                      first | refine ZE.move rfl rfl rfl rfl sz0 ?_
                      refine ZE.load rfl rfl rfl rfl sz1 (fun W hW => Sg.ld (bp38.on (sb_of hW)) kS) ?_
                      refine ZE.move rfl rfl rfl rfl sz0 ?_
                      refine ZE.conv rfl rfl rfl rfl sz1 (fun W hW => ((hb.below l_33).below (sb_of hW)).convert) ?_
                      refine ZE.callR [(preS c).v] (fun v W => Ob W w38.heap.size v (encD (preS c)) ∧ Below w38.heap.size w38 W) enter65 rfl rfl rfl (fun _ _ h => .inr h.2) (fun W hW => (written_any _ kS W).mono fun e w' ⟨v, g1, g2, g3⟩ => ⟨v, g1, g2.lower hW.size, bt hW g3⟩) ?_
                      rintro vo ⟨_, _⟩
                      refine ZE.conv rfl rfl rfl rfl szC (fun W hW => hW.1.has.convert) ?_
                      refine ZE.bin rfl rfl rfl rfl rfl sz0 (fun W => (str_ne_d _ _ W _ _).trans (by rw [decide_eq_true he])) ?_
                      refine ZE.pick rfl rfl rfl rfl rfl sz0 ?_
                      intro w39 h39
                      have e39 := h39.2
                      have bp_34 := bp38.on e39
                      have tq_34 := tq_33.below e39
                      have br_34 := br_33.on e39
                      have l_34 := bt l_33 e39
                      refine EW.on ?_
                      refine EW.cond_t rfl ?_
                      refine EW.region ?_
                      first | refine WL.assign rfl rfl rfl ?_
                      refine WL.done ?_
                      refine EW.on ?_
                      refine EW.seq ?_
                      refine EW.seq ?_
                      refine EW.region ?_
                      first | refine WL.move rfl rfl rfl ?_
                      refine WL.bin rfl rfl rfl rfl (int_ne_t (by decide) _ _ _) ?_
                      refine WL.done ?_
                      refine EW.on ?_
                      refine EW.cond_t rfl ?_
                      refine EW.seq ?_
                      refine EW.region ?_
                      refine WL.buildN [] rfl rfl rfl (bd33 _) ?_
                      first | refine WL.move rfl rfl rfl ?_
                      obtain ⟨w9, s9, b9, f9⟩ := Sg.st (s := Sg.z) br_34 Sg.z_ok Sg.z_ok
                      refine WL.store rfl rfl rfl s9 ?_
                      first | refine WL.assign rfl rfl rfl ?_
                      refine WL.done ?_
                      refine EW.on ?_
                      refine EW.ret ?_
                      refine pr_then ?_
                      refine EW.returnsCT Try.results50 rfl rfl b9 Try.underlying33 rfl (by simpa using i33 Sg.z_ok) ⟨?_, bfx l_34 (by omega) f9⟩
                      have hE : parE c = 180 := by rw [hfin, if_neg (fun h => he h.2)]
                      rw [(par_is c).1, (par_is c).2, parS, hE]
                      first | rfl | (rw [if_pos rfl]; rfl) | (rw [if_neg (by decide)]; rfl)
                    · have hlen : c.length = eT c := by omega
                      have hS : (⟨(tkC c 1 16), (tkC c 81 32), (tkC c 113 32), (tkC c 145 32), (tkC c 177 32), z32, (tkC c 221 32), (numB (tkC c 209 4)), (numB (tkC c 213 4)), 0, (numB (tkC c 253 4)), 0, (numB (tkC c 217 4)), Hl.z, (tkC c 17 64)⟩ : Sg) = preS c := by
                        rw [pre_tk (by omega) hlen, hpT, show oT c = 221 from by unfold oT; rw [if_neg h74], if_neg h74, if_neg h74, if_neg h74, if_pos h86, if_pos h86, hu2, if_neg (by omega)]
                      have bpS : Blk wc32 p (preS c).cs 33 := by rw [← hS]; exact bp_32
                      have kS : (preS c).ok := by rw [← hS]; exact k_30
                      have hfin := doc_fin h0 hv (by omega) (by omega) hlen
                      refine EW.region ?_
                      refine WL.load rfl rfl rfl (Sg.ld bpS kS) ?_
                      refine WL.call [(preS c).v] enter47 rfl rfl rfl (rcheck_any _ kS _) ?_
                      rintro _ w38 ⟨rfl, e38⟩
                      rw [chkD, if_neg hg]
                      refine ⟨_, rfl, ?_⟩
                      have bp38 := bpS.on e38
                      have tq_33 := tq_32.below e38
                      have br_33 := br_32.on e38
                      have l_33 := bt l_32 e38
                      first | refine WL.assign rfl rfl rfl ?_
                      refine WL.done ?_
                      refine EW.on ?_
                      refine EW.seq ?_
                      refine EW.seq ?_
                      refine EW.ordB [(0, 0, 0), (1, 0, 0), (2, 0, 0), (3, 0, 1), (4, 0, 0), (5, 2, 0), (6, 0, 0), (7, 0, 1), (8, 0, 0), (9, 0, 0)] (by kernel_rfl) rfl (by kernel_rfl) ?_
                      simp only [opsZ, List.getD_cons_zero, List.getD_cons_succ]
                      first | refine ZE.move rfl rfl rfl rfl sz0 ?_
                      refine ZE.bin rfl rfl rfl rfl rfl sz0 (fun W => int_eq_f (by decide) W _ _) ?_
                      first | refine ZE.move rfl rfl rfl rfl sz0 ?_
                      refine ZE.skip rfl rfl rfl sz1 ?_
                      refine ZE.skip rfl rfl rfl sz0 ?_
                      refine ZE.skip rfl rfl rfl szC ?_
                      refine ZE.skip rfl rfl rfl sz0 ?_
                      refine ZE.skip rfl rfl rfl sz1 ?_
                      refine ZE.skip rfl rfl rfl sz0 ?_
                      refine ZE.pick rfl rfl rfl rfl rfl sz0 ?_
                      intro w39 e39
                      have bp_34 := bp38.on e39
                      have tq_34 := tq_33.below e39
                      have br_34 := br_33.on e39
                      have l_34 := bt l_33 e39
                      refine EW.on ?_
                      refine EW.cond_f rfl ?_
                      refine EW.skip ?_
                      refine EW.on ?_
                      refine EW.seq ?_
                      refine EW.seq ?_
                      refine EW.region ?_
                      first | refine WL.move rfl rfl rfl ?_
                      refine WL.bin rfl rfl rfl rfl (int_ne_t (by decide) _ _ _) ?_
                      refine WL.done ?_
                      refine EW.on ?_
                      refine EW.cond_t rfl ?_
                      refine EW.seq ?_
                      refine EW.region ?_
                      refine WL.buildN [] rfl rfl rfl (bd33 _) ?_
                      first | refine WL.move rfl rfl rfl ?_
                      obtain ⟨w9, s9, b9, f9⟩ := Sg.st (s := Sg.z) br_34 Sg.z_ok Sg.z_ok
                      refine WL.store rfl rfl rfl s9 ?_
                      first | refine WL.assign rfl rfl rfl ?_
                      refine WL.done ?_
                      refine EW.on ?_
                      refine EW.ret ?_
                      refine pr_then ?_
                      refine EW.returnsCT Try.results50 rfl rfl b9 Try.underlying33 rfl (by simpa using i33 Sg.z_ok) ⟨?_, bfx l_34 (by omega) f9⟩
                      have hE : parE c = 180 := by rw [hfin, if_neg (fun h => hg h.1)]
                      rw [(par_is c).1, (par_is c).2, parS, hE]
                      first | rfl | (rw [if_pos rfl]; rfl) | (rw [if_neg (by decide)]; rfl)
              · have hmm : numB (tkC c (pT c) 1) = u.toNat := by rw [hpT]; exact hu2
                refine EW.region ?_
                first | refine WL.move rfl rfl rfl ?_
                refine WL.bin rfl rfl rfl rfl (bgt_f (by omega) _ _ _) ?_
                refine WL.done ?_
                refine EW.on ?_
                refine EW.cond_f rfl ?_
                refine EW.skip ?_
                refine EW.on ?_
                refine EW.seq ?_
                refine EW.seq ?_
                refine EW.region ?_
                first | refine WL.move rfl rfl rfl ?_
                refine WL.bin rfl rfl rfl rfl (beq_t (by omega) _ _ _) ?_
                refine WL.done ?_
                refine EW.on ?_
                refine EW.cond_t rfl ?_
                refine EW.seq ?_
                refine EW.region ?_
                first | refine WL.move rfl rfl rfl ?_
                have lsz33 := l_32.size
                refine WL.call [.pointer (some ⟨q, 0, none⟩)] enter67 rfl rfl rfl (tq_key B q 258 c _ tq_32 (by omega) hl) ?_
                rintro _ wc33 ⟨rfl, tq33', fc33⟩
                refine ⟨_, rfl, ?_⟩
                have tq_33 : Tq wc33 B q c 290 := tq33'
                have bp_33 := bp_32.fx fc33 (fun e => hqp e.symm)
                have br_33 := br_32.fx fc33 (fun e => by omega)
                have l_33 := bfx l_32 (by omega) fc33
                have lc33 := fc33.size
                first | refine WL.move rfl rfl rfl ?_
                have lsz34 := l_33.size
                refine WL.call [.pointer (some ⟨q, 0, none⟩)] enter68 rfl rfl rfl (tq_four B q 290 c _ tq_33 (by omega) hl) ?_
                rintro _ wc34 ⟨rfl, tq34', fc34⟩
                refine ⟨_, rfl, ?_⟩
                have tq_34 : Tq wc34 B q c 294 := tq34'
                have bp_34 := bp_33.fx fc34 (fun e => hqp e.symm)
                have br_34 := br_33.fx fc34 (fun e => by omega)
                have l_34 := bfx l_33 (by omega) fc34
                have lc34 := fc34.size
                first | refine WL.field rfl rfl rfl (f33_12 p _) ?_
                first | refine WL.field rfl rfl rfl (f30_1 p 214 _) ?_
                obtain ⟨w_35, s_35, bb_35, fx_35⟩ := Sg.st_honce bp_34 k_30 (x := (tkC c 258 32)) (tkC_len _ _ _)
                have bc_35 : Blk w_35 p (Sg.cs (⟨(tkC c 1 16), (tkC c 81 32), (tkC c 113 32), (tkC c 145 32), (tkC c 177 32), z32, (tkC c 221 32), (numB (tkC c 209 4)), (numB (tkC c 213 4)), 0, (numB (tkC c 253 4)), 0, (numB (tkC c 217 4)), (⟨z32, (tkC c 258 32), 0⟩ : Hl), (tkC c 17 64)⟩ : Sg)) 33 := bb_35
                have k_35 : Sg.ok (⟨(tkC c 1 16), (tkC c 81 32), (tkC c 113 32), (tkC c 145 32), (tkC c 177 32), z32, (tkC c 221 32), (numB (tkC c 209 4)), (numB (tkC c 213 4)), 0, (numB (tkC c 253 4)), 0, (numB (tkC c 217 4)), (⟨z32, (tkC c 258 32), 0⟩ : Hl), (tkC c 17 64)⟩ : Sg) := k_30.s_hl (x := (⟨z32, (tkC c 258 32), 0⟩ : Hl)) ⟨k_30.hl.i, (tkC_len _ _ _), k_30.hl.p⟩
                clear bb_35
                refine WL.store rfl rfl rfl s_35 ?_
                have tq_36 := tq_34.fx fx_35 (fun e => hqp e) (fun k hk => by have hk : k = p := hk; omega)
                have br_36 := br_34.fx fx_35 (fun e => by omega)
                have l_36 := bfx l_34 (by omega) fx_35
                first | refine WL.field rfl rfl rfl (f33_12 p _) ?_
                first | refine WL.field rfl rfl rfl (f30_2 p 214 _) ?_
                obtain ⟨w_37, s_37, bb_37, fx_37⟩ := Sg.st_hpre bc_35 k_35 ((numB (tkC c 290 4)))
                have bc_37 : Blk w_37 p (Sg.cs (⟨(tkC c 1 16), (tkC c 81 32), (tkC c 113 32), (tkC c 145 32), (tkC c 177 32), z32, (tkC c 221 32), (numB (tkC c 209 4)), (numB (tkC c 213 4)), 0, (numB (tkC c 253 4)), 0, (numB (tkC c 217 4)), (⟨z32, (tkC c 258 32), (numB (tkC c 290 4))⟩ : Hl), (tkC c 17 64)⟩ : Sg)) 33 := bb_37
                have k_37 : Sg.ok (⟨(tkC c 1 16), (tkC c 81 32), (tkC c 113 32), (tkC c 145 32), (tkC c 177 32), z32, (tkC c 221 32), (numB (tkC c 209 4)), (numB (tkC c 213 4)), 0, (numB (tkC c 253 4)), 0, (numB (tkC c 217 4)), (⟨z32, (tkC c 258 32), (numB (tkC c 290 4))⟩ : Hl), (tkC c 17 64)⟩ : Sg) := k_35.s_hl (x := (⟨z32, (tkC c 258 32), (numB (tkC c 290 4))⟩ : Hl)) ⟨k_35.hl.i, k_35.hl.o, (numB_32 _ (Nat.le_of_eq (tkC_len _ _ _)))⟩
                clear bb_37
                refine WL.store rfl rfl rfl s_37 ?_
                have tq_38 := tq_36.fx fx_37 (fun e => hqp e) (fun k hk => by have hk : k = p := hk; omega)
                have br_38 := br_36.fx fx_37 (fun e => by omega)
                have l_38 := bfx l_36 (by omega) fx_37
                refine WL.done ?_
                refine EW.on ?_
                refine EW.seq ?_
                obtain ⟨s0, hs0⟩ : ∃ s0, (⟨(tkC c 1 16), (tkC c 81 32), (tkC c 113 32), (tkC c 145 32), (tkC c 177 32), z32, (tkC c 221 32), (numB (tkC c 209 4)), (numB (tkC c 213 4)), 0, (numB (tkC c 253 4)), 0, (numB (tkC c 217 4)), (⟨z32, (tkC c 258 32), (numB (tkC c 290 4))⟩ : Hl), (tkC c 17 64)⟩ : Sg) = s0 := ⟨_, rfl⟩
                have bs0 := bc_37
                have ks0 := k_37
                rw [hs0] at bs0 ks0
                have hid0 : s0.hl.id = z32 := by rw [← hs0]
                refine EW.region ?_
                first | refine WL.assign rfl rfl rfl ?_
                refine WL.done ?_
                refine EW.on ?_
                refine EW.block ?_
                refine EW.loop (d2E vb qr q p) (D2I s0 (s0.bind.take 32) p w_37) (fun t => 32 - t) 0 [0, 2, 4, 5, 10] rfl ⟨Nat.zero_le _, by
                  rw [ouB_zero]
                  have e : ({ s0 with hl := { s0.hl with id := List.replicate 32 0 } } : Sg) = s0 := by
                    have e2 : s0.hl.id = List.replicate 32 0 := hid0
                    rw [← e2]
                  rw [e]; exact bs0, Fx.refl _ _⟩ ?_
                rintro t wi ⟨htl, bi, fxi⟩
                show EW _ _ _ _ [(0, vb), (2, .pointer (some ⟨qr, 0, none⟩)), (4, .pointer (some ⟨q, 0, none⟩)), (5, .pointer (some ⟨p, 0, none⟩)), (10, .int .i64 (t : Int))] _
                refine EW.seq ?_
                refine EW.seq ?_
                refine EW.region ?_
                first | refine WL.move rfl rfl rfl ?_
                refine WL.bin rfl rfl rfl rfl (int_lt_d _ _ _ _ _) ?_
                refine WL.done ?_
                refine EW.on ?_
                refine EW.cond_d rfl (fun h116 => ?_) (fun h116 => ?_)
                · refine EW.skip ?_
                  refine EW.on ?_
                  refine EW.seq ?_
                  refine EW.block ?_
                  refine EW.region ?_
                  first | refine WL.move rfl rfl rfl ?_
                  first | refine WL.move rfl rfl rfl ?_
                  refine WL.field rfl rfl rfl (f33_13 p _) ?_
                  have hlt : t < 32 := by omega
                  have ki : Sg.ok { s0 with hl := { s0.hl with id := ouB (s0.bind.take 32) 32 t } } := ks0.s_hl ⟨ouB_len htl, ks0.hl.o, ks0.hl.p⟩
                  refine WL.index rfl rfl rfl rfl (ix31 p 279 t (by omega) _) ?_
                  refine WL.load rfl rfl rfl (Sg.ldI_bind (i := t) bi ki (by omega)) ?_
                  refine WL.field rfl rfl rfl (f33_12 p _) ?_
                  refine WL.field rfl rfl rfl (f30_0 p 214 _) ?_
                  refine WL.index rfl rfl rfl rfl (ix25 p (214 + 0) t hlt _) ?_
                  obtain ⟨w33, s33, b33, f33⟩ := Sg.stI_hid (i := t) bi ki hlt (s0.bind.getD t 0)
                  refine WL.store rfl rfl rfl s33 ?_
                  have e33 : (ouB (s0.bind.take 32) 32 t).set t (s0.bind.getD t 0) = ouB (s0.bind.take 32) 32 (t + 1) := ouB_step hlt (by
                    rw [tkB_self (takeB ks0.bind), List.getElem?_take_of_lt hlt, List.getD_eq_getElem?_getD, List.getElem?_eq_getElem (by rw [ks0.bind]; omega)]
                    rfl)
                  have b33 : Blk w33 p (Sg.cs { s0 with hl := { s0.hl with id := ouB (s0.bind.take 32) 32 (t + 1) } }) 33 := by rw [← e33]; exact b33
                  refine WL.done ?_
                  refine pn_block ?_
                  refine EW.on ?_
                  refine EW.region ?_
                  first | refine WL.move rfl rfl rfl ?_
                  refine WL.bin rfl rfl rfl rfl (int_add (c := ((t + 1 : Nat) : Int)) (by rw [IntKind.wrap_i64]; omega) _ _ _) ?_
                  first | refine WL.assign rfl rfl rfl ?_
                  refine WL.done ?_
                  exact EW.again (E := d2E vb qr q p) (R := D2I s0 (s0.bind.take 32) p w_37) (m := fun t => 32 - t) (x := t) (t + 1) [0, 2, 4, 5, 10] rfl ⟨by omega, b33, fxi.and f33⟩ (by show 32 - (t + 1) < 32 - t; omega)
                · refine EW.exit ?_
                  refine px_then ?_
                  refine px_then ?_
                  refine px_block ?_
                  refine EW.on ?_
                  refine EW.seq ?_
                  refine EW.seq ?_
                  by_cases hsh2 : c.length < 294
                  · have heT : eT c = 294 := by unfold eT; rw [hpT, hu2]; rw [if_pos (by omega)]
                    have hte : t = 32 := by omega
                    have ble_39 : Blk wi p (Sg.cs { s0 with hl := { s0.hl with id := s0.bind.take 32 } }) 33 := by
                      have h := bi
                      rw [hte, ouB_all, tkB_self (takeB ks0.bind)] at h
                      exact h
                    have kle_39 : Sg.ok { s0 with hl := { s0.hl with id := s0.bind.take 32 } } := ks0.s_hl ⟨takeB ks0.bind, ks0.hl.o, ks0.hl.p⟩
                    have tq_40 := tq_38.fx fxi (fun e => hqp e) (fun k hk => by have hk : k = p := hk; omega)
                    have br_40 := br_38.fx fxi (fun e => by omega)
                    have l_40 := bfx l_38 (by omega) fxi
                    rw [← hs0] at ble_39 kle_39
                    refine EW.region ?_
                    first | refine WL.move rfl rfl rfl ?_
                    first | refine WL.nilc rfl rfl rfl ?_
                    refine WL.field rfl rfl rfl (f115_1 q _) ?_
                    have htq34 := tq_40
                    obtain ⟨bvx34, tkx34⟩ := htq34
                    have blx34 := tkx34.bl
                    rw [decide_eq_true hsh2] at blx34
                    refine WL.load rfl rfl rfl (ldBo blx34 rfl) ?_
                    refine WL.done ?_
                    refine EW.on ?_
                    refine EW.cond_t rfl ?_
                    refine EW.seq ?_
                    refine EW.region ?_
                    refine WL.buildN [] rfl rfl rfl (bd33 _) ?_
                    obtain ⟨w9, s9, b9, f9⟩ := Sg.st (s := Sg.z) br_40 Sg.z_ok Sg.z_ok
                    refine WL.store rfl rfl rfl s9 ?_
                    first | refine WL.assign rfl rfl rfl ?_
                    refine WL.done ?_
                    refine EW.on ?_
                    refine EW.ret ?_
                    refine pr_then ?_
                    refine EW.returnsCT Try.results50 rfl rfl b9 Try.underlying33 rfl (by simpa using i33 Sg.z_ok) ⟨?_, bfx l_40 (by omega) f9⟩
                    have hE : parE c = 10 := doc_short2 h0 hv (by omega) (by omega) (by omega)
                    rw [(par_is c).1, (par_is c).2, parS, hE]
                    first | rfl | (rw [if_pos rfl]; rfl) | (rw [if_neg (by decide)]; rfl)
                  · have heT : eT c = 294 := by unfold eT; rw [hpT, hu2]; rw [if_pos (by omega)]
                    have hte : t = 32 := by omega
                    have ble_39 : Blk wi p (Sg.cs { s0 with hl := { s0.hl with id := s0.bind.take 32 } }) 33 := by
                      have h := bi
                      rw [hte, ouB_all, tkB_self (takeB ks0.bind)] at h
                      exact h
                    have kle_39 : Sg.ok { s0 with hl := { s0.hl with id := s0.bind.take 32 } } := ks0.s_hl ⟨takeB ks0.bind, ks0.hl.o, ks0.hl.p⟩
                    have tq_40 := tq_38.fx fxi (fun e => hqp e) (fun k hk => by have hk : k = p := hk; omega)
                    have br_40 := br_38.fx fxi (fun e => by omega)
                    have l_40 := bfx l_38 (by omega) fxi
                    rw [← hs0] at ble_39 kle_39
                    refine EW.region ?_
                    first | refine WL.move rfl rfl rfl ?_
                    first | refine WL.nilc rfl rfl rfl ?_
                    refine WL.field rfl rfl rfl (f115_1 q _) ?_
                    have htq34 := tq_40
                    obtain ⟨bvx34, tkx34⟩ := htq34
                    have blx34 := tkx34.bl
                    rw [decide_eq_false hsh2] at blx34
                    refine WL.load rfl rfl rfl (ldBo blx34 rfl) ?_
                    refine WL.done ?_
                    refine EW.on ?_
                    refine EW.cond_f rfl ?_
                    refine EW.skip ?_
                    refine EW.on ?_
                    refine EW.seq ?_
                    refine EW.seq ?_
                    by_cases htl2 : eT c < c.length
                    · refine EW.region ?_
                      first | refine WL.move rfl rfl rfl ?_
                      first | refine WL.nilc rfl rfl rfl ?_
                      refine WL.field rfl rfl rfl (f115_0 q _) ?_
                      have htq36 := tq_40
                      obtain ⟨bvy, tky⟩ := htq36
                      refine WL.load rfl rfl rfl (ldS tky.bl rfl) ?_
                      refine WL.len rfl rfl rfl (tky.hs.len _ _) ?_
                      refine WL.bin rfl rfl rfl rfl (int_gt_t (by rw [List.length_drop]; omega) _ _ _) ?_
                      refine WL.done ?_
                      refine EW.on ?_
                      refine EW.cond_t rfl ?_
                      refine EW.seq ?_
                      refine EW.region ?_
                      refine WL.buildN [] rfl rfl rfl (bd33 _) ?_
                      obtain ⟨w9, s9, b9, f9⟩ := Sg.st (s := Sg.z) br_40 Sg.z_ok Sg.z_ok
                      refine WL.store rfl rfl rfl s9 ?_
                      first | refine WL.assign rfl rfl rfl ?_
                      refine WL.done ?_
                      refine EW.on ?_
                      refine EW.ret ?_
                      refine pr_then ?_
                      refine EW.returnsCT Try.results50 rfl rfl b9 Try.underlying33 rfl (by simpa using i33 Sg.z_ok) ⟨?_, bfx l_40 (by omega) f9⟩
                      have hE : parE c = 11 := doc_tail h0 hv (by omega) (by omega) (by omega)
                      rw [(par_is c).1, (par_is c).2, parS, hE]
                      first | rfl | (rw [if_pos rfl]; rfl) | (rw [if_neg (by decide)]; rfl)
                    · refine EW.region ?_
                      first | refine WL.move rfl rfl rfl ?_
                      first | refine WL.nilc rfl rfl rfl ?_
                      refine WL.field rfl rfl rfl (f115_0 q _) ?_
                      have htq36 := tq_40
                      obtain ⟨bvy, tky⟩ := htq36
                      refine WL.load rfl rfl rfl (ldS tky.bl rfl) ?_
                      refine WL.len rfl rfl rfl (tky.hs.len _ _) ?_
                      refine WL.bin rfl rfl rfl rfl (int_gt_f (by rw [List.length_drop]; omega) _ _ _) ?_
                      refine WL.done ?_
                      refine EW.on ?_
                      refine EW.cond_f rfl ?_
                      refine EW.skip ?_
                      refine EW.on ?_
                      refine EW.seq ?_
                      have hgc : (Good (preS c) ∧ encD (preS c) = c) ∨ (Good (preS c) ∧ ¬ encD (preS c) = c) ∨ ¬ Good (preS c) := by
                        by_cases x1 : Good (preS c) <;> by_cases x2 : encD (preS c) = c <;> simp [x1, x2]
                      rcases hgc with ⟨hg, he⟩ | ⟨hg, he⟩ | hg
                      · have hlen : c.length = eT c := by omega
                        have hS : (⟨(tkC c 1 16), (tkC c 81 32), (tkC c 113 32), (tkC c 145 32), (tkC c 177 32), z32, (tkC c 221 32), (numB (tkC c 209 4)), (numB (tkC c 213 4)), 0, (numB (tkC c 253 4)), 0, (numB (tkC c 217 4)), (⟨((tkC c 17 64).take 32), (tkC c 258 32), (numB (tkC c 290 4))⟩ : Hl), (tkC c 17 64)⟩ : Sg) = preS c := by
                          rw [pre_tk (by omega) hlen, hpT, show oT c = 221 from by unfold oT; rw [if_neg h74], if_neg h74, if_neg h74, if_neg h74, if_pos h86, if_pos h86, hu2, if_pos (by omega)]
                        have bpS : Blk wi p (preS c).cs 33 := by rw [← hS]; exact ble_39
                        have kS : (preS c).ok := by rw [← hS]; exact kle_39
                        have hfin := doc_fin h0 hv (by omega) (by omega) hlen
                        refine EW.region ?_
                        refine WL.load rfl rfl rfl (Sg.ld bpS kS) ?_
                        refine WL.call [(preS c).v] enter47 rfl rfl rfl (rcheck_any _ kS _) ?_
                        rintro _ w38 ⟨rfl, e38⟩
                        rw [chkD, if_pos hg]
                        refine ⟨_, rfl, ?_⟩
                        have bp38 := bpS.on e38
                        have tq_41 := tq_40.below e38
                        have br_41 := br_40.on e38
                        have l_41 := bt l_40 e38
                        first | refine WL.assign rfl rfl rfl ?_
                        refine WL.done ?_
                        refine EW.on ?_
                        refine EW.seq ?_
                        refine EW.seq ?_
                        refine EW.ordB [(0, 0, 0), (1, 0, 0), (2, 0, 0), (3, 0, 1), (6, 0, 0), (7, 0, 1), (4, 1, 1), (5, 2, 0), (8, 0, 0), (9, 0, 0)] (by kernel_rfl) rfl (by kernel_rfl) ?_
                        simp only [opsZ, List.getD_cons_zero, List.getD_cons_succ]
                        first | refine ZE.move rfl rfl rfl rfl sz0 ?_
                        refine ZE.bin rfl rfl rfl rfl rfl sz0 (fun W => int_eq_t rfl W _ _) ?_
                        first | refine ZE.move rfl rfl rfl rfl sz0 ?_
                        refine ZE.load rfl rfl rfl rfl sz1 (fun W hW => Sg.ld (bp38.on (sb_of hW)) kS) ?_
                        refine ZE.move rfl rfl rfl rfl sz0 ?_
                        refine ZE.conv rfl rfl rfl rfl sz1 (fun W hW => ((hb.below l_41).below (sb_of hW)).convert) ?_
                        refine ZE.callR [(preS c).v] (fun v W => Ob W w38.heap.size v (encD (preS c)) ∧ Below w38.heap.size w38 W) enter65 rfl rfl rfl (fun _ _ h => .inr h.2) (fun W hW => (written_any _ kS W).mono fun e w' ⟨v, g1, g2, g3⟩ => ⟨v, g1, g2.lower hW.size, bt hW g3⟩) ?_
                        rintro vo ⟨_, _⟩
                        refine ZE.conv rfl rfl rfl rfl szC (fun W hW => hW.1.has.convert) ?_
                        refine ZE.bin rfl rfl rfl rfl rfl sz0 (fun W => (str_ne_d _ _ W _ _).trans (by rw [decide_eq_false (show ¬ ¬ encD (preS c) = c from fun h => h he)])) ?_
                        refine ZE.pick rfl rfl rfl rfl rfl sz0 ?_
                        intro w39 h39
                        have e39 := h39.2
                        have bp_42 := bp38.on e39
                        have tq_42 := tq_41.below e39
                        have br_42 := br_41.on e39
                        have l_42 := bt l_41 e39
                        refine EW.on ?_
                        refine EW.cond_f rfl ?_
                        refine EW.skip ?_
                        refine EW.on ?_
                        refine EW.seq ?_
                        refine EW.seq ?_
                        refine EW.region ?_
                        first | refine WL.move rfl rfl rfl ?_
                        refine WL.bin rfl rfl rfl rfl (int_ne_f rfl _ _ _) ?_
                        refine WL.done ?_
                        refine EW.on ?_
                        refine EW.cond_f rfl ?_
                        refine EW.skip ?_
                        refine EW.on ?_
                        refine EW.seq ?_
                        refine EW.region ?_
                        refine WL.load rfl rfl rfl (Sg.ld bp_42 kS) ?_
                        obtain ⟨w9, s9, b9, f9⟩ := Sg.st (s := (preS c)) br_42 Sg.z_ok kS
                        refine WL.store rfl rfl rfl s9 ?_
                        first | refine WL.assign rfl rfl rfl ?_
                        refine WL.done ?_
                        refine EW.on ?_
                        refine EW.ret ?_
                        refine EW.returnsCT Try.results50 rfl rfl b9 Try.underlying33 rfl (by simpa using i33 kS) ⟨?_, bfx l_42 (by omega) f9⟩
                        have hE : parE c = 0 := by rw [hfin, if_pos ⟨hg, he⟩]
                        rw [(par_is c).1, (par_is c).2, parS, hE]
                        first | rfl | (rw [if_pos rfl]; rfl) | (rw [if_neg (by decide)]; rfl)
                      · have hlen : c.length = eT c := by omega
                        have hS : (⟨(tkC c 1 16), (tkC c 81 32), (tkC c 113 32), (tkC c 145 32), (tkC c 177 32), z32, (tkC c 221 32), (numB (tkC c 209 4)), (numB (tkC c 213 4)), 0, (numB (tkC c 253 4)), 0, (numB (tkC c 217 4)), (⟨((tkC c 17 64).take 32), (tkC c 258 32), (numB (tkC c 290 4))⟩ : Hl), (tkC c 17 64)⟩ : Sg) = preS c := by
                          rw [pre_tk (by omega) hlen, hpT, show oT c = 221 from by unfold oT; rw [if_neg h74], if_neg h74, if_neg h74, if_neg h74, if_pos h86, if_pos h86, hu2, if_pos (by omega)]
                        have bpS : Blk wi p (preS c).cs 33 := by rw [← hS]; exact ble_39
                        have kS : (preS c).ok := by rw [← hS]; exact kle_39
                        have hfin := doc_fin h0 hv (by omega) (by omega) hlen
                        refine EW.region ?_
                        refine WL.load rfl rfl rfl (Sg.ld bpS kS) ?_
                        refine WL.call [(preS c).v] enter47 rfl rfl rfl (rcheck_any _ kS _) ?_
                        rintro _ w38 ⟨rfl, e38⟩
                        rw [chkD, if_pos hg]
                        refine ⟨_, rfl, ?_⟩
                        have bp38 := bpS.on e38
                        have tq_41 := tq_40.below e38
                        have br_41 := br_40.on e38
                        have l_41 := bt l_40 e38
                        first | refine WL.assign rfl rfl rfl ?_
                        refine WL.done ?_
                        refine EW.on ?_
                        refine EW.seq ?_
                        refine EW.seq ?_
                        refine EW.ordB [(0, 0, 0), (1, 0, 0), (2, 0, 0), (3, 0, 1), (6, 0, 0), (7, 0, 1), (4, 1, 1), (5, 2, 0), (8, 0, 0), (9, 0, 0)] (by kernel_rfl) rfl (by kernel_rfl) ?_
                        simp only [opsZ, List.getD_cons_zero, List.getD_cons_succ]
                        first | refine ZE.move rfl rfl rfl rfl sz0 ?_
                        refine ZE.bin rfl rfl rfl rfl rfl sz0 (fun W => int_eq_t rfl W _ _) ?_
                        first | refine ZE.move rfl rfl rfl rfl sz0 ?_
                        refine ZE.load rfl rfl rfl rfl sz1 (fun W hW => Sg.ld (bp38.on (sb_of hW)) kS) ?_
                        refine ZE.move rfl rfl rfl rfl sz0 ?_
                        refine ZE.conv rfl rfl rfl rfl sz1 (fun W hW => ((hb.below l_41).below (sb_of hW)).convert) ?_
                        refine ZE.callR [(preS c).v] (fun v W => Ob W w38.heap.size v (encD (preS c)) ∧ Below w38.heap.size w38 W) enter65 rfl rfl rfl (fun _ _ h => .inr h.2) (fun W hW => (written_any _ kS W).mono fun e w' ⟨v, g1, g2, g3⟩ => ⟨v, g1, g2.lower hW.size, bt hW g3⟩) ?_
                        rintro vo ⟨_, _⟩
                        refine ZE.conv rfl rfl rfl rfl szC (fun W hW => hW.1.has.convert) ?_
                        refine ZE.bin rfl rfl rfl rfl rfl sz0 (fun W => (str_ne_d _ _ W _ _).trans (by rw [decide_eq_true he])) ?_
                        refine ZE.pick rfl rfl rfl rfl rfl sz0 ?_
                        intro w39 h39
                        have e39 := h39.2
                        have bp_42 := bp38.on e39
                        have tq_42 := tq_41.below e39
                        have br_42 := br_41.on e39
                        have l_42 := bt l_41 e39
                        refine EW.on ?_
                        refine EW.cond_t rfl ?_
                        refine EW.region ?_
                        first | refine WL.assign rfl rfl rfl ?_
                        refine WL.done ?_
                        refine EW.on ?_
                        refine EW.seq ?_
                        refine EW.seq ?_
                        refine EW.region ?_
                        first | refine WL.move rfl rfl rfl ?_
                        refine WL.bin rfl rfl rfl rfl (int_ne_t (by decide) _ _ _) ?_
                        refine WL.done ?_
                        refine EW.on ?_
                        refine EW.cond_t rfl ?_
                        refine EW.seq ?_
                        refine EW.region ?_
                        refine WL.buildN [] rfl rfl rfl (bd33 _) ?_
                        first | refine WL.move rfl rfl rfl ?_
                        obtain ⟨w9, s9, b9, f9⟩ := Sg.st (s := Sg.z) br_42 Sg.z_ok Sg.z_ok
                        refine WL.store rfl rfl rfl s9 ?_
                        first | refine WL.assign rfl rfl rfl ?_
                        refine WL.done ?_
                        refine EW.on ?_
                        refine EW.ret ?_
                        refine pr_then ?_
                        refine EW.returnsCT Try.results50 rfl rfl b9 Try.underlying33 rfl (by simpa using i33 Sg.z_ok) ⟨?_, bfx l_42 (by omega) f9⟩
                        have hE : parE c = 180 := by rw [hfin, if_neg (fun h => he h.2)]
                        rw [(par_is c).1, (par_is c).2, parS, hE]
                        first | rfl | (rw [if_pos rfl]; rfl) | (rw [if_neg (by decide)]; rfl)
                      · have hlen : c.length = eT c := by omega
                        have hS : (⟨(tkC c 1 16), (tkC c 81 32), (tkC c 113 32), (tkC c 145 32), (tkC c 177 32), z32, (tkC c 221 32), (numB (tkC c 209 4)), (numB (tkC c 213 4)), 0, (numB (tkC c 253 4)), 0, (numB (tkC c 217 4)), (⟨((tkC c 17 64).take 32), (tkC c 258 32), (numB (tkC c 290 4))⟩ : Hl), (tkC c 17 64)⟩ : Sg) = preS c := by
                          rw [pre_tk (by omega) hlen, hpT, show oT c = 221 from by unfold oT; rw [if_neg h74], if_neg h74, if_neg h74, if_neg h74, if_pos h86, if_pos h86, hu2, if_pos (by omega)]
                        have bpS : Blk wi p (preS c).cs 33 := by rw [← hS]; exact ble_39
                        have kS : (preS c).ok := by rw [← hS]; exact kle_39
                        have hfin := doc_fin h0 hv (by omega) (by omega) hlen
                        refine EW.region ?_
                        refine WL.load rfl rfl rfl (Sg.ld bpS kS) ?_
                        refine WL.call [(preS c).v] enter47 rfl rfl rfl (rcheck_any _ kS _) ?_
                        rintro _ w38 ⟨rfl, e38⟩
                        rw [chkD, if_neg hg]
                        refine ⟨_, rfl, ?_⟩
                        have bp38 := bpS.on e38
                        have tq_41 := tq_40.below e38
                        have br_41 := br_40.on e38
                        have l_41 := bt l_40 e38
                        first | refine WL.assign rfl rfl rfl ?_
                        refine WL.done ?_
                        refine EW.on ?_
                        refine EW.seq ?_
                        refine EW.seq ?_
                        refine EW.ordB [(0, 0, 0), (1, 0, 0), (2, 0, 0), (3, 0, 1), (4, 0, 0), (5, 2, 0), (6, 0, 0), (7, 0, 1), (8, 0, 0), (9, 0, 0)] (by kernel_rfl) rfl (by kernel_rfl) ?_
                        simp only [opsZ, List.getD_cons_zero, List.getD_cons_succ]
                        first | refine ZE.move rfl rfl rfl rfl sz0 ?_
                        refine ZE.bin rfl rfl rfl rfl rfl sz0 (fun W => int_eq_f (by decide) W _ _) ?_
                        first | refine ZE.move rfl rfl rfl rfl sz0 ?_
                        refine ZE.skip rfl rfl rfl sz1 ?_
                        refine ZE.skip rfl rfl rfl sz0 ?_
                        refine ZE.skip rfl rfl rfl szC ?_
                        refine ZE.skip rfl rfl rfl sz0 ?_
                        refine ZE.skip rfl rfl rfl sz1 ?_
                        refine ZE.skip rfl rfl rfl sz0 ?_
                        refine ZE.pick rfl rfl rfl rfl rfl sz0 ?_
                        intro w39 e39
                        have bp_42 := bp38.on e39
                        have tq_42 := tq_41.below e39
                        have br_42 := br_41.on e39
                        have l_42 := bt l_41 e39
                        refine EW.on ?_
                        refine EW.cond_f rfl ?_
                        refine EW.skip ?_
                        refine EW.on ?_
                        refine EW.seq ?_
                        refine EW.seq ?_
                        refine EW.region ?_
                        first | refine WL.move rfl rfl rfl ?_
                        refine WL.bin rfl rfl rfl rfl (int_ne_t (by decide) _ _ _) ?_
                        refine WL.done ?_
                        refine EW.on ?_
                        refine EW.cond_t rfl ?_
                        refine EW.seq ?_
                        refine EW.region ?_
                        refine WL.buildN [] rfl rfl rfl (bd33 _) ?_
                        first | refine WL.move rfl rfl rfl ?_
                        obtain ⟨w9, s9, b9, f9⟩ := Sg.st (s := Sg.z) br_42 Sg.z_ok Sg.z_ok
                        refine WL.store rfl rfl rfl s9 ?_
                        first | refine WL.assign rfl rfl rfl ?_
                        refine WL.done ?_
                        refine EW.on ?_
                        refine EW.ret ?_
                        refine pr_then ?_
                        refine EW.returnsCT Try.results50 rfl rfl b9 Try.underlying33 rfl (by simpa using i33 Sg.z_ok) ⟨?_, bfx l_42 (by omega) f9⟩
                        have hE : parE c = 180 := by rw [hfin, if_neg (fun h => hg h.1)]
                        rw [(par_is c).1, (par_is c).2, parS, hE]
                        first | rfl | (rw [if_pos rfl]; rfl) | (rw [if_neg (by decide)]; rfl)
              · have hmm : numB (tkC c (pT c) 1) = u.toNat := by rw [hpT]; exact hu2
                refine EW.region ?_
                first | refine WL.move rfl rfl rfl ?_
                refine WL.bin rfl rfl rfl rfl (bgt_t (by omega) _ _ _) ?_
                refine WL.done ?_
                refine EW.on ?_
                refine EW.cond_t rfl ?_
                refine EW.seq ?_
                refine EW.region ?_
                refine WL.buildN [] rfl rfl rfl (bd33 _) ?_
                obtain ⟨w9, s9, b9, f9⟩ := Sg.st (s := Sg.z) br_32 Sg.z_ok Sg.z_ok
                refine WL.store rfl rfl rfl s9 ?_
                first | refine WL.assign rfl rfl rfl ?_
                refine WL.done ?_
                refine EW.on ?_
                refine EW.ret ?_
                refine pr_then ?_
                refine EW.returnsCT Try.results50 rfl rfl b9 Try.underlying33 rfl (by simpa using i33 Sg.z_ok) ⟨?_, bfx l_32 (by omega) f9⟩
                have hE : parE c = 180 := doc_bad h0 hv (by omega) (by omega)
                rw [(par_is c).1, (par_is c).2, parS, hE]
                first | rfl | (rw [if_pos rfl]; rfl) | (rw [if_neg (by decide)]; rfl)
          · refine EW.skip ?_
            refine EW.on ?_
            refine EW.seq ?_
            refine EW.region ?_
            first | refine WL.move rfl rfl rfl ?_
            have lsz26 := l_25.size
            refine WL.call [.pointer (some ⟨q, 0, none⟩), .int .i64 1] enter66 rfl rfl rfl (tq_take B q 1 221 c _ tq_25 (by omega) (by decide) (by decide) hl) ?_
            rintro _ wc26 ⟨vt26, rfl, ot26, tq26', fc26⟩
            refine ⟨_, rfl, ?_⟩
            have tq_26 : Tq wc26 B q c 222 := tq26'
            have bp_26 := bc_24.fx fc26 (fun e => hqp e.symm)
            have br_26 := br_25.fx fc26 (fun e => by omega)
            have l_26 := bfx l_25 (by omega) fc26
            have lc26 := fc26.size
            obtain ⟨u, hu1, hu2⟩ := tk1 c 221
            rw [hu1] at ot26
            obtain ⟨adm, ium, lum⟩ := ot26.has.item (i := 0) (u := u) rfl
            refine WL.index rfl rfl rfl rfl (ium _) ?_
            refine WL.load rfl rfl rfl lum ?_
            first | refine WL.assign rfl rfl rfl ?_
            refine WL.done ?_
            refine EW.on ?_
            refine EW.seq ?_
            refine EW.seq ?_
            by_cases hsh : c.length < 222
            · have hpT : pT c = 221 := by unfold pT oT; rw [if_neg h86, if_neg h74]
              refine EW.region ?_
              first | refine WL.move rfl rfl rfl ?_
              first | refine WL.nilc rfl rfl rfl ?_
              refine WL.field rfl rfl rfl (f115_1 q _) ?_
              have htq24 := tq_26
              obtain ⟨bvx24, tkx24⟩ := htq24
              have blx24 := tkx24.bl
              rw [decide_eq_true hsh] at blx24
              refine WL.load rfl rfl rfl (ldBo blx24 rfl) ?_
              refine WL.done ?_
              refine EW.on ?_
              refine EW.cond_t rfl ?_
              refine EW.seq ?_
              refine EW.region ?_
              refine WL.buildN [] rfl rfl rfl (bd33 _) ?_
              obtain ⟨w9, s9, b9, f9⟩ := Sg.st (s := Sg.z) br_26 Sg.z_ok Sg.z_ok
              refine WL.store rfl rfl rfl s9 ?_
              first | refine WL.assign rfl rfl rfl ?_
              refine WL.done ?_
              refine EW.on ?_
              refine EW.ret ?_
              refine pr_then ?_
              refine EW.returnsCT Try.results50 rfl rfl b9 Try.underlying33 rfl (by simpa using i33 Sg.z_ok) ⟨?_, bfx l_26 (by omega) f9⟩
              have hE : parE c = 10 := doc_short h0 hv (by omega)
              rw [(par_is c).1, (par_is c).2, parS, hE]
              first | rfl | (rw [if_pos rfl]; rfl) | (rw [if_neg (by decide)]; rfl)
            · have hpT : pT c = 221 := by unfold pT oT; rw [if_neg h86, if_neg h74]
              refine EW.region ?_
              first | refine WL.move rfl rfl rfl ?_
              first | refine WL.nilc rfl rfl rfl ?_
              refine WL.field rfl rfl rfl (f115_1 q _) ?_
              have htq24 := tq_26
              obtain ⟨bvx24, tkx24⟩ := htq24
              have blx24 := tkx24.bl
              rw [decide_eq_false hsh] at blx24
              refine WL.load rfl rfl rfl (ldBo blx24 rfl) ?_
              refine WL.done ?_
              refine EW.on ?_
              refine EW.cond_f rfl ?_
              refine EW.skip ?_
              refine EW.on ?_
              refine EW.seq ?_
              refine EW.seq ?_
              have hmc : u.toNat = 0 ∨ u.toNat = 1 ∨ 1 < u.toNat := by omega
              rcases hmc with hmc | hmc | hmc
              · have hmm : numB (tkC c (pT c) 1) = u.toNat := by rw [hpT]; exact hu2
                refine EW.region ?_
                first | refine WL.move rfl rfl rfl ?_
                refine WL.bin rfl rfl rfl rfl (bgt_f (by omega) _ _ _) ?_
                refine WL.done ?_
                refine EW.on ?_
                refine EW.cond_f rfl ?_
                refine EW.skip ?_
                refine EW.on ?_
                refine EW.seq ?_
                refine EW.seq ?_
                refine EW.region ?_
                first | refine WL.move rfl rfl rfl ?_
                refine WL.bin rfl rfl rfl rfl (beq_f (by omega) _ _ _) ?_
                refine WL.done ?_
                refine EW.on ?_
                refine EW.cond_f rfl ?_
                refine EW.skip ?_
                refine EW.on ?_
                refine EW.seq ?_
                refine EW.seq ?_
                by_cases hsh2 : c.length < 222
                · have heT : eT c = 222 := by unfold eT; rw [hpT, hu2]; rw [if_neg (by omega)]
                  refine EW.region ?_
                  first | refine WL.move rfl rfl rfl ?_
                  first | refine WL.nilc rfl rfl rfl ?_
                  refine WL.field rfl rfl rfl (f115_1 q _) ?_
                  have htq34 := tq_26
                  obtain ⟨bvx34, tkx34⟩ := htq34
                  have blx34 := tkx34.bl
                  rw [decide_eq_true hsh2] at blx34
                  refine WL.load rfl rfl rfl (ldBo blx34 rfl) ?_
                  refine WL.done ?_
                  refine EW.on ?_
                  refine EW.cond_t rfl ?_
                  refine EW.seq ?_
                  refine EW.region ?_
                  refine WL.buildN [] rfl rfl rfl (bd33 _) ?_
                  obtain ⟨w9, s9, b9, f9⟩ := Sg.st (s := Sg.z) br_26 Sg.z_ok Sg.z_ok
                  refine WL.store rfl rfl rfl s9 ?_
                  first | refine WL.assign rfl rfl rfl ?_
                  refine WL.done ?_
                  refine EW.on ?_
                  refine EW.ret ?_
                  refine pr_then ?_
                  refine EW.returnsCT Try.results50 rfl rfl b9 Try.underlying33 rfl (by simpa using i33 Sg.z_ok) ⟨?_, bfx l_26 (by omega) f9⟩
                  have hE : parE c = 10 := doc_short2 h0 hv (by omega) (by omega) (by omega)
                  rw [(par_is c).1, (par_is c).2, parS, hE]
                  first | rfl | (rw [if_pos rfl]; rfl) | (rw [if_neg (by decide)]; rfl)
                · have heT : eT c = 222 := by unfold eT; rw [hpT, hu2]; rw [if_neg (by omega)]
                  refine EW.region ?_
                  first | refine WL.move rfl rfl rfl ?_
                  first | refine WL.nilc rfl rfl rfl ?_
                  refine WL.field rfl rfl rfl (f115_1 q _) ?_
                  have htq34 := tq_26
                  obtain ⟨bvx34, tkx34⟩ := htq34
                  have blx34 := tkx34.bl
                  rw [decide_eq_false hsh2] at blx34
                  refine WL.load rfl rfl rfl (ldBo blx34 rfl) ?_
                  refine WL.done ?_
                  refine EW.on ?_
                  refine EW.cond_f rfl ?_
                  refine EW.skip ?_
                  refine EW.on ?_
                  refine EW.seq ?_
                  refine EW.seq ?_
                  by_cases htl2 : eT c < c.length
                  · refine EW.region ?_
                    first | refine WL.move rfl rfl rfl ?_
                    first | refine WL.nilc rfl rfl rfl ?_
                    refine WL.field rfl rfl rfl (f115_0 q _) ?_
                    have htq36 := tq_26
                    obtain ⟨bvy, tky⟩ := htq36
                    refine WL.load rfl rfl rfl (ldS tky.bl rfl) ?_
                    refine WL.len rfl rfl rfl (tky.hs.len _ _) ?_
                    refine WL.bin rfl rfl rfl rfl (int_gt_t (by rw [List.length_drop]; omega) _ _ _) ?_
                    refine WL.done ?_
                    refine EW.on ?_
                    refine EW.cond_t rfl ?_
                    refine EW.seq ?_
                    refine EW.region ?_
                    refine WL.buildN [] rfl rfl rfl (bd33 _) ?_
                    obtain ⟨w9, s9, b9, f9⟩ := Sg.st (s := Sg.z) br_26 Sg.z_ok Sg.z_ok
                    refine WL.store rfl rfl rfl s9 ?_
                    first | refine WL.assign rfl rfl rfl ?_
                    refine WL.done ?_
                    refine EW.on ?_
                    refine EW.ret ?_
                    refine pr_then ?_
                    refine EW.returnsCT Try.results50 rfl rfl b9 Try.underlying33 rfl (by simpa using i33 Sg.z_ok) ⟨?_, bfx l_26 (by omega) f9⟩
                    have hE : parE c = 11 := doc_tail h0 hv (by omega) (by omega) (by omega)
                    rw [(par_is c).1, (par_is c).2, parS, hE]
                    first | rfl | (rw [if_pos rfl]; rfl) | (rw [if_neg (by decide)]; rfl)
                  · refine EW.region ?_
                    first | refine WL.move rfl rfl rfl ?_
                    first | refine WL.nilc rfl rfl rfl ?_
                    refine WL.field rfl rfl rfl (f115_0 q _) ?_
                    have htq36 := tq_26
                    obtain ⟨bvy, tky⟩ := htq36
                    refine WL.load rfl rfl rfl (ldS tky.bl rfl) ?_
                    refine WL.len rfl rfl rfl (tky.hs.len _ _) ?_
                    refine WL.bin rfl rfl rfl rfl (int_gt_f (by rw [List.length_drop]; omega) _ _ _) ?_
                    refine WL.done ?_
                    refine EW.on ?_
                    refine EW.cond_f rfl ?_
                    refine EW.skip ?_
                    refine EW.on ?_
                    refine EW.seq ?_
                    have hgc : (Good (preS c) ∧ encD (preS c) = c) ∨ (Good (preS c) ∧ ¬ encD (preS c) = c) ∨ ¬ Good (preS c) := by
                      by_cases x1 : Good (preS c) <;> by_cases x2 : encD (preS c) = c <;> simp [x1, x2]
                    rcases hgc with ⟨hg, he⟩ | ⟨hg, he⟩ | hg
                    · have hlen : c.length = eT c := by omega
                      have hS : (⟨(tkC c 1 16), (tkC c 81 32), (tkC c 113 32), (tkC c 145 32), (tkC c 177 32), z32, z32, (numB (tkC c 209 4)), (numB (tkC c 213 4)), 0, 0, 0, (numB (tkC c 217 4)), Hl.z, (tkC c 17 64)⟩ : Sg) = preS c := by
                        rw [pre_tk (by omega) hlen, hpT, show oT c = 221 from by unfold oT; rw [if_neg h74], if_neg h74, if_neg h74, if_neg h74, if_neg h86, if_neg h86, hu2, if_neg (by omega)]
                      have bpS : Blk wc26 p (preS c).cs 33 := by rw [← hS]; exact bp_26
                      have kS : (preS c).ok := by rw [← hS]; exact k_24
                      have hfin := doc_fin h0 hv (by omega) (by omega) hlen
                      refine EW.region ?_
                      refine WL.load rfl rfl rfl (Sg.ld bpS kS) ?_
                      refine WL.call [(preS c).v] enter47 rfl rfl rfl (rcheck_any _ kS _) ?_
                      rintro _ w38 ⟨rfl, e38⟩
                      rw [chkD, if_pos hg]
                      refine ⟨_, rfl, ?_⟩
                      have bp38 := bpS.on e38
                      have tq_27 := tq_26.below e38
                      have br_27 := br_26.on e38
                      have l_27 := bt l_26 e38
                      first | refine WL.assign rfl rfl rfl ?_
                      refine WL.done ?_
                      refine EW.on ?_
                      refine EW.seq ?_
                      refine EW.seq ?_
                      refine EW.ordB [(0, 0, 0), (1, 0, 0), (2, 0, 0), (3, 0, 1), (6, 0, 0), (7, 0, 1), (4, 1, 1), (5, 2, 0), (8, 0, 0), (9, 0, 0)] (by kernel_rfl) rfl (by kernel_rfl) ?_
                      simp only [opsZ, List.getD_cons_zero, List.getD_cons_succ]
                      first | refine ZE.move rfl rfl rfl rfl sz0 ?_
                      refine ZE.bin rfl rfl rfl rfl rfl sz0 (fun W => int_eq_t rfl W _ _) ?_
                      first | refine ZE.move rfl rfl rfl rfl sz0 ?_
                      refine ZE.load rfl rfl rfl rfl sz1 (fun W hW => Sg.ld (bp38.on (sb_of hW)) kS) ?_
                      refine ZE.move rfl rfl rfl rfl sz0 ?_
                      refine ZE.conv rfl rfl rfl rfl sz1 (fun W hW => ((hb.below l_27).below (sb_of hW)).convert) ?_
                      refine ZE.callR [(preS c).v] (fun v W => Ob W w38.heap.size v (encD (preS c)) ∧ Below w38.heap.size w38 W) enter65 rfl rfl rfl (fun _ _ h => .inr h.2) (fun W hW => (written_any _ kS W).mono fun e w' ⟨v, g1, g2, g3⟩ => ⟨v, g1, g2.lower hW.size, bt hW g3⟩) ?_
                      rintro vo ⟨_, _⟩
                      refine ZE.conv rfl rfl rfl rfl szC (fun W hW => hW.1.has.convert) ?_
                      refine ZE.bin rfl rfl rfl rfl rfl sz0 (fun W => (str_ne_d _ _ W _ _).trans (by rw [decide_eq_false (show ¬ ¬ encD (preS c) = c from fun h => h he)])) ?_
                      refine ZE.pick rfl rfl rfl rfl rfl sz0 ?_
                      intro w39 h39
                      have e39 := h39.2
                      have bp_28 := bp38.on e39
                      have tq_28 := tq_27.below e39
                      have br_28 := br_27.on e39
                      have l_28 := bt l_27 e39
                      refine EW.on ?_
                      refine EW.cond_f rfl ?_
                      refine EW.skip ?_
                      refine EW.on ?_
                      refine EW.seq ?_
                      refine EW.seq ?_
                      refine EW.region ?_
                      first | refine WL.move rfl rfl rfl ?_
                      refine WL.bin rfl rfl rfl rfl (int_ne_f rfl _ _ _) ?_
                      refine WL.done ?_
                      refine EW.on ?_
                      refine EW.cond_f rfl ?_
                      refine EW.skip ?_
                      refine EW.on ?_
                      refine EW.seq ?_
                      refine EW.region ?_
                      refine WL.load rfl rfl rfl (Sg.ld bp_28 kS) ?_
                      obtain ⟨w9, s9, b9, f9⟩ := Sg.st (s := (preS c)) br_28 Sg.z_ok kS
                      refine WL.store rfl rfl rfl s9 ?_
                      first | refine WL.assign rfl rfl rfl ?_
                      refine WL.done ?_
                      refine EW.on ?_
                      refine EW.ret ?_
                      refine EW.returnsCT Try.results50 rfl rfl b9 Try.underlying33 rfl (by simpa using i33 kS) ⟨?_, bfx l_28 (by omega) f9⟩
                      have hE : parE c = 0 := by rw [hfin, if_pos ⟨hg, he⟩]
                      rw [(par_is c).1, (par_is c).2, parS, hE]
                      first | rfl | (rw [if_pos rfl]; rfl) | (rw [if_neg (by decide)]; rfl)
                    · have hlen : c.length = eT c := by omega
                      have hS : (⟨(tkC c 1 16), (tkC c 81 32), (tkC c 113 32), (tkC c 145 32), (tkC c 177 32), z32, z32, (numB (tkC c 209 4)), (numB (tkC c 213 4)), 0, 0, 0, (numB (tkC c 217 4)), Hl.z, (tkC c 17 64)⟩ : Sg) = preS c := by
                        rw [pre_tk (by omega) hlen, hpT, show oT c = 221 from by unfold oT; rw [if_neg h74], if_neg h74, if_neg h74, if_neg h74, if_neg h86, if_neg h86, hu2, if_neg (by omega)]
                      have bpS : Blk wc26 p (preS c).cs 33 := by rw [← hS]; exact bp_26
                      have kS : (preS c).ok := by rw [← hS]; exact k_24
                      have hfin := doc_fin h0 hv (by omega) (by omega) hlen
                      refine EW.region ?_
                      refine WL.load rfl rfl rfl (Sg.ld bpS kS) ?_
                      refine WL.call [(preS c).v] enter47 rfl rfl rfl (rcheck_any _ kS _) ?_
                      rintro _ w38 ⟨rfl, e38⟩
                      rw [chkD, if_pos hg]
                      refine ⟨_, rfl, ?_⟩
                      have bp38 := bpS.on e38
                      have tq_27 := tq_26.below e38
                      have br_27 := br_26.on e38
                      have l_27 := bt l_26 e38
                      first | refine WL.assign rfl rfl rfl ?_
                      refine WL.done ?_
                      refine EW.on ?_
                      refine EW.seq ?_
                      refine EW.seq ?_
                      refine EW.ordB [(0, 0, 0), (1, 0, 0), (2, 0, 0), (3, 0, 1), (6, 0, 0), (7, 0, 1), (4, 1, 1), (5, 2, 0), (8, 0, 0), (9, 0, 0)] (by kernel_rfl) rfl (by kernel_rfl) ?_
                      simp only [opsZ, List.getD_cons_zero, List.getD_cons_succ]
                      first | refine ZE.move rfl rfl rfl rfl sz0 ?_
                      refine ZE.bin rfl rfl rfl rfl rfl sz0 (fun W => int_eq_t rfl W _ _) ?_
                      first | refine ZE.move rfl rfl rfl rfl sz0 ?_
                      refine ZE.load rfl rfl rfl rfl sz1 (fun W hW => Sg.ld (bp38.on (sb_of hW)) kS) ?_
                      refine ZE.move rfl rfl rfl rfl sz0 ?_
                      refine ZE.conv rfl rfl rfl rfl sz1 (fun W hW => ((hb.below l_27).below (sb_of hW)).convert) ?_
                      refine ZE.callR [(preS c).v] (fun v W => Ob W w38.heap.size v (encD (preS c)) ∧ Below w38.heap.size w38 W) enter65 rfl rfl rfl (fun _ _ h => .inr h.2) (fun W hW => (written_any _ kS W).mono fun e w' ⟨v, g1, g2, g3⟩ => ⟨v, g1, g2.lower hW.size, bt hW g3⟩) ?_
                      rintro vo ⟨_, _⟩
                      refine ZE.conv rfl rfl rfl rfl szC (fun W hW => hW.1.has.convert) ?_
                      refine ZE.bin rfl rfl rfl rfl rfl sz0 (fun W => (str_ne_d _ _ W _ _).trans (by rw [decide_eq_true he])) ?_
                      refine ZE.pick rfl rfl rfl rfl rfl sz0 ?_
                      intro w39 h39
                      have e39 := h39.2
                      have bp_28 := bp38.on e39
                      have tq_28 := tq_27.below e39
                      have br_28 := br_27.on e39
                      have l_28 := bt l_27 e39
                      refine EW.on ?_
                      refine EW.cond_t rfl ?_
                      refine EW.region ?_
                      first | refine WL.assign rfl rfl rfl ?_
                      refine WL.done ?_
                      refine EW.on ?_
                      refine EW.seq ?_
                      refine EW.seq ?_
                      refine EW.region ?_
                      first | refine WL.move rfl rfl rfl ?_
                      refine WL.bin rfl rfl rfl rfl (int_ne_t (by decide) _ _ _) ?_
                      refine WL.done ?_
                      refine EW.on ?_
                      refine EW.cond_t rfl ?_
                      refine EW.seq ?_
                      refine EW.region ?_
                      refine WL.buildN [] rfl rfl rfl (bd33 _) ?_
                      first | refine WL.move rfl rfl rfl ?_
                      obtain ⟨w9, s9, b9, f9⟩ := Sg.st (s := Sg.z) br_28 Sg.z_ok Sg.z_ok
                      refine WL.store rfl rfl rfl s9 ?_
                      first | refine WL.assign rfl rfl rfl ?_
                      refine WL.done ?_
                      refine EW.on ?_
                      refine EW.ret ?_
                      refine pr_then ?_
                      refine EW.returnsCT Try.results50 rfl rfl b9 Try.underlying33 rfl (by simpa using i33 Sg.z_ok) ⟨?_, bfx l_28 (by omega) f9⟩
                      have hE : parE c = 180 := by rw [hfin, if_neg (fun h => he h.2)]
                      rw [(par_is c).1, (par_is c).2, parS, hE]
                      first | rfl | (rw [if_pos rfl]; rfl) | (rw [if_neg (by decide)]; rfl)
                    · have hlen : c.length = eT c := by omega
                      have hS : (⟨(tkC c 1 16), (tkC c 81 32), (tkC c 113 32), (tkC c 145 32), (tkC c 177 32), z32, z32, (numB (tkC c 209 4)), (numB (tkC c 213 4)), 0, 0, 0, (numB (tkC c 217 4)), Hl.z, (tkC c 17 64)⟩ : Sg) = preS c := by
                        rw [pre_tk (by omega) hlen, hpT, show oT c = 221 from by unfold oT; rw [if_neg h74], if_neg h74, if_neg h74, if_neg h74, if_neg h86, if_neg h86, hu2, if_neg (by omega)]
                      have bpS : Blk wc26 p (preS c).cs 33 := by rw [← hS]; exact bp_26
                      have kS : (preS c).ok := by rw [← hS]; exact k_24
                      have hfin := doc_fin h0 hv (by omega) (by omega) hlen
                      refine EW.region ?_
                      refine WL.load rfl rfl rfl (Sg.ld bpS kS) ?_
                      refine WL.call [(preS c).v] enter47 rfl rfl rfl (rcheck_any _ kS _) ?_
                      rintro _ w38 ⟨rfl, e38⟩
                      rw [chkD, if_neg hg]
                      refine ⟨_, rfl, ?_⟩
                      have bp38 := bpS.on e38
                      have tq_27 := tq_26.below e38
                      have br_27 := br_26.on e38
                      have l_27 := bt l_26 e38
                      first | refine WL.assign rfl rfl rfl ?_
                      refine WL.done ?_
                      refine EW.on ?_
                      refine EW.seq ?_
                      refine EW.seq ?_
                      refine EW.ordB [(0, 0, 0), (1, 0, 0), (2, 0, 0), (3, 0, 1), (4, 0, 0), (5, 2, 0), (6, 0, 0), (7, 0, 1), (8, 0, 0), (9, 0, 0)] (by kernel_rfl) rfl (by kernel_rfl) ?_
                      simp only [opsZ, List.getD_cons_zero, List.getD_cons_succ]
                      first | refine ZE.move rfl rfl rfl rfl sz0 ?_
                      refine ZE.bin rfl rfl rfl rfl rfl sz0 (fun W => int_eq_f (by decide) W _ _) ?_
                      first | refine ZE.move rfl rfl rfl rfl sz0 ?_
                      refine ZE.skip rfl rfl rfl sz1 ?_
                      refine ZE.skip rfl rfl rfl sz0 ?_
                      refine ZE.skip rfl rfl rfl szC ?_
                      refine ZE.skip rfl rfl rfl sz0 ?_
                      refine ZE.skip rfl rfl rfl sz1 ?_
                      refine ZE.skip rfl rfl rfl sz0 ?_
                      refine ZE.pick rfl rfl rfl rfl rfl sz0 ?_
                      intro w39 e39
                      have bp_28 := bp38.on e39
                      have tq_28 := tq_27.below e39
                      have br_28 := br_27.on e39
                      have l_28 := bt l_27 e39
                      refine EW.on ?_
                      refine EW.cond_f rfl ?_
                      refine EW.skip ?_
                      refine EW.on ?_
                      refine EW.seq ?_
                      refine EW.seq ?_
                      refine EW.region ?_
                      first | refine WL.move rfl rfl rfl ?_
                      refine WL.bin rfl rfl rfl rfl (int_ne_t (by decide) _ _ _) ?_
                      refine WL.done ?_
                      refine EW.on ?_
                      refine EW.cond_t rfl ?_
                      refine EW.seq ?_
                      refine EW.region ?_
                      refine WL.buildN [] rfl rfl rfl (bd33 _) ?_
                      first | refine WL.move rfl rfl rfl ?_
                      obtain ⟨w9, s9, b9, f9⟩ := Sg.st (s := Sg.z) br_28 Sg.z_ok Sg.z_ok
                      refine WL.store rfl rfl rfl s9 ?_
                      first | refine WL.assign rfl rfl rfl ?_
                      refine WL.done ?_
                      refine EW.on ?_
                      refine EW.ret ?_
                      refine pr_then ?_
                      refine EW.returnsCT Try.results50 rfl rfl b9 Try.underlying33 rfl (by simpa using i33 Sg.z_ok) ⟨?_, bfx l_28 (by omega) f9⟩
                      have hE : parE c = 180 := by rw [hfin, if_neg (fun h => hg h.1)]
                      rw [(par_is c).1, (par_is c).2, parS, hE]
                      first | rfl | (rw [if_pos rfl]; rfl) | (rw [if_neg (by decide)]; rfl)
              · have hmm : numB (tkC c (pT c) 1) = u.toNat := by rw [hpT]; exact hu2
                refine EW.region ?_
                first | refine WL.move rfl rfl rfl ?_
                refine WL.bin rfl rfl rfl rfl (bgt_f (by omega) _ _ _) ?_
                refine WL.done ?_
                refine EW.on ?_
                refine EW.cond_f rfl ?_
                refine EW.skip ?_
                refine EW.on ?_
                refine EW.seq ?_
                refine EW.seq ?_
                refine EW.region ?_
                first | refine WL.move rfl rfl rfl ?_
                refine WL.bin rfl rfl rfl rfl (beq_t (by omega) _ _ _) ?_
                refine WL.done ?_
                refine EW.on ?_
                refine EW.cond_t rfl ?_
                refine EW.seq ?_
                refine EW.region ?_
                first | refine WL.move rfl rfl rfl ?_
                have lsz27 := l_26.size
                refine WL.call [.pointer (some ⟨q, 0, none⟩)] enter67 rfl rfl rfl (tq_key B q 222 c _ tq_26 (by omega) hl) ?_
                rintro _ wc27 ⟨rfl, tq27', fc27⟩
                refine ⟨_, rfl, ?_⟩
                have tq_27 : Tq wc27 B q c 254 := tq27'
                have bp_27 := bp_26.fx fc27 (fun e => hqp e.symm)
                have br_27 := br_26.fx fc27 (fun e => by omega)
                have l_27 := bfx l_26 (by omega) fc27
                have lc27 := fc27.size
                first | refine WL.move rfl rfl rfl ?_
                have lsz28 := l_27.size
                refine WL.call [.pointer (some ⟨q, 0, none⟩)] enter68 rfl rfl rfl (tq_four B q 254 c _ tq_27 (by omega) hl) ?_
                rintro _ wc28 ⟨rfl, tq28', fc28⟩
                refine ⟨_, rfl, ?_⟩
                have tq_28 : Tq wc28 B q c 258 := tq28'
                have bp_28 := bp_27.fx fc28 (fun e => hqp e.symm)
                have br_28 := br_27.fx fc28 (fun e => by omega)
                have l_28 := bfx l_27 (by omega) fc28
                have lc28 := fc28.size
                first | refine WL.field rfl rfl rfl (f33_12 p _) ?_
                first | refine WL.field rfl rfl rfl (f30_1 p 214 _) ?_
                obtain ⟨w_29, s_29, bb_29, fx_29⟩ := Sg.st_honce bp_28 k_24 (x := (tkC c 222 32)) (tkC_len _ _ _)
                have bc_29 : Blk w_29 p (Sg.cs (⟨(tkC c 1 16), (tkC c 81 32), (tkC c 113 32), (tkC c 145 32), (tkC c 177 32), z32, z32, (numB (tkC c 209 4)), (numB (tkC c 213 4)), 0, 0, 0, (numB (tkC c 217 4)), (⟨z32, (tkC c 222 32), 0⟩ : Hl), (tkC c 17 64)⟩ : Sg)) 33 := bb_29
                have k_29 : Sg.ok (⟨(tkC c 1 16), (tkC c 81 32), (tkC c 113 32), (tkC c 145 32), (tkC c 177 32), z32, z32, (numB (tkC c 209 4)), (numB (tkC c 213 4)), 0, 0, 0, (numB (tkC c 217 4)), (⟨z32, (tkC c 222 32), 0⟩ : Hl), (tkC c 17 64)⟩ : Sg) := k_24.s_hl (x := (⟨z32, (tkC c 222 32), 0⟩ : Hl)) ⟨k_24.hl.i, (tkC_len _ _ _), k_24.hl.p⟩
                clear bb_29
                refine WL.store rfl rfl rfl s_29 ?_
                have tq_30 := tq_28.fx fx_29 (fun e => hqp e) (fun k hk => by have hk : k = p := hk; omega)
                have br_30 := br_28.fx fx_29 (fun e => by omega)
                have l_30 := bfx l_28 (by omega) fx_29
                first | refine WL.field rfl rfl rfl (f33_12 p _) ?_
                first | refine WL.field rfl rfl rfl (f30_2 p 214 _) ?_
                obtain ⟨w_31, s_31, bb_31, fx_31⟩ := Sg.st_hpre bc_29 k_29 ((numB (tkC c 254 4)))
                have bc_31 : Blk w_31 p (Sg.cs (⟨(tkC c 1 16), (tkC c 81 32), (tkC c 113 32), (tkC c 145 32), (tkC c 177 32), z32, z32, (numB (tkC c 209 4)), (numB (tkC c 213 4)), 0, 0, 0, (numB (tkC c 217 4)), (⟨z32, (tkC c 222 32), (numB (tkC c 254 4))⟩ : Hl), (tkC c 17 64)⟩ : Sg)) 33 := bb_31
                have k_31 : Sg.ok (⟨(tkC c 1 16), (tkC c 81 32), (tkC c 113 32), (tkC c 145 32), (tkC c 177 32), z32, z32, (numB (tkC c 209 4)), (numB (tkC c 213 4)), 0, 0, 0, (numB (tkC c 217 4)), (⟨z32, (tkC c 222 32), (numB (tkC c 254 4))⟩ : Hl), (tkC c 17 64)⟩ : Sg) := k_29.s_hl (x := (⟨z32, (tkC c 222 32), (numB (tkC c 254 4))⟩ : Hl)) ⟨k_29.hl.i, k_29.hl.o, (numB_32 _ (Nat.le_of_eq (tkC_len _ _ _)))⟩
                clear bb_31
                refine WL.store rfl rfl rfl s_31 ?_
                have tq_32 := tq_30.fx fx_31 (fun e => hqp e) (fun k hk => by have hk : k = p := hk; omega)
                have br_32 := br_30.fx fx_31 (fun e => by omega)
                have l_32 := bfx l_30 (by omega) fx_31
                refine WL.done ?_
                refine EW.on ?_
                refine EW.seq ?_
                obtain ⟨s0, hs0⟩ : ∃ s0, (⟨(tkC c 1 16), (tkC c 81 32), (tkC c 113 32), (tkC c 145 32), (tkC c 177 32), z32, z32, (numB (tkC c 209 4)), (numB (tkC c 213 4)), 0, 0, 0, (numB (tkC c 217 4)), (⟨z32, (tkC c 222 32), (numB (tkC c 254 4))⟩ : Hl), (tkC c 17 64)⟩ : Sg) = s0 := ⟨_, rfl⟩
                have bs0 := bc_31
                have ks0 := k_31
                rw [hs0] at bs0 ks0
                have hid0 : s0.hl.id = z32 := by rw [← hs0]
                refine EW.region ?_
                first | refine WL.assign rfl rfl rfl ?_
                refine WL.done ?_
                refine EW.on ?_
                refine EW.block ?_
                refine EW.loop (d2E vb qr q p) (D2I s0 (s0.bind.take 32) p w_31) (fun t => 32 - t) 0 [0, 2, 4, 5, 10] rfl ⟨Nat.zero_le _, by
                  rw [ouB_zero]
                  have e : ({ s0 with hl := { s0.hl with id := List.replicate 32 0 } } : Sg) = s0 := by
                    have e2 : s0.hl.id = List.replicate 32 0 := hid0
                    rw [← e2]
                  rw [e]; exact bs0, Fx.refl _ _⟩ ?_
                rintro t wi ⟨htl, bi, fxi⟩
                show EW _ _ _ _ [(0, vb), (2, .pointer (some ⟨qr, 0, none⟩)), (4, .pointer (some ⟨q, 0, none⟩)), (5, .pointer (some ⟨p, 0, none⟩)), (10, .int .i64 (t : Int))] _
                refine EW.seq ?_
                refine EW.seq ?_
                refine EW.region ?_
                first | refine WL.move rfl rfl rfl ?_
                refine WL.bin rfl rfl rfl rfl (int_lt_d _ _ _ _ _) ?_
                refine WL.done ?_
                refine EW.on ?_
                refine EW.cond_d rfl (fun h116 => ?_) (fun h116 => ?_)
                · refine EW.skip ?_
                  refine EW.on ?_
                  refine EW.seq ?_
                  refine EW.block ?_
                  refine EW.region ?_
                  first | refine WL.move rfl rfl rfl ?_
                  first | refine WL.move rfl rfl rfl ?_
                  refine WL.field rfl rfl rfl (f33_13 p _) ?_
                  have hlt : t < 32 := by omega
                  have ki : Sg.ok { s0 with hl := { s0.hl with id := ouB (s0.bind.take 32) 32 t } } := ks0.s_hl ⟨ouB_len htl, ks0.hl.o, ks0.hl.p⟩
                  refine WL.index rfl rfl rfl rfl (ix31 p 279 t (by omega) _) ?_
                  refine WL.load rfl rfl rfl (Sg.ldI_bind (i := t) bi ki (by omega)) ?_
                  refine WL.field rfl rfl rfl (f33_12 p _) ?_
                  refine WL.field rfl rfl rfl (f30_0 p 214 _) ?_
                  refine WL.index rfl rfl rfl rfl (ix25 p (214 + 0) t hlt _) ?_
                  obtain ⟨w33, s33, b33, f33⟩ := Sg.stI_hid (i := t) bi ki hlt (s0.bind.getD t 0)
                  refine WL.store rfl rfl rfl s33 ?_
                  have e33 : (ouB (s0.bind.take 32) 32 t).set t (s0.bind.getD t 0) = ouB (s0.bind.take 32) 32 (t + 1) := ouB_step hlt (by
                    rw [tkB_self (takeB ks0.bind), List.getElem?_take_of_lt hlt, List.getD_eq_getElem?_getD, List.getElem?_eq_getElem (by rw [ks0.bind]; omega)]
                    rfl)
                  have b33 : Blk w33 p (Sg.cs { s0 with hl := { s0.hl with id := ouB (s0.bind.take 32) 32 (t + 1) } }) 33 := by rw [← e33]; exact b33
                  refine WL.done ?_
                  refine pn_block ?_
                  refine EW.on ?_
                  refine EW.region ?_
                  first | refine WL.move rfl rfl rfl ?_
                  refine WL.bin rfl rfl rfl rfl (int_add (c := ((t + 1 : Nat) : Int)) (by rw [IntKind.wrap_i64]; omega) _ _ _) ?_
                  first | refine WL.assign rfl rfl rfl ?_
                  refine WL.done ?_
                  exact EW.again (E := d2E vb qr q p) (R := D2I s0 (s0.bind.take 32) p w_31) (m := fun t => 32 - t) (x := t) (t + 1) [0, 2, 4, 5, 10] rfl ⟨by omega, b33, fxi.and f33⟩ (by show 32 - (t + 1) < 32 - t; omega)
                · refine EW.exit ?_
                  refine px_then ?_
                  refine px_then ?_
                  refine px_block ?_
                  refine EW.on ?_
                  refine EW.seq ?_
                  refine EW.seq ?_
                  by_cases hsh2 : c.length < 258
                  · have heT : eT c = 258 := by unfold eT; rw [hpT, hu2]; rw [if_pos (by omega)]
                    have hte : t = 32 := by omega
                    have ble_33 : Blk wi p (Sg.cs { s0 with hl := { s0.hl with id := s0.bind.take 32 } }) 33 := by
                      have h := bi
                      rw [hte, ouB_all, tkB_self (takeB ks0.bind)] at h
                      exact h
                    have kle_33 : Sg.ok { s0 with hl := { s0.hl with id := s0.bind.take 32 } } := ks0.s_hl ⟨takeB ks0.bind, ks0.hl.o, ks0.hl.p⟩
                    have tq_34 := tq_32.fx fxi (fun e => hqp e) (fun k hk => by have hk : k = p := hk; omega)
                    have br_34 := br_32.fx fxi (fun e => by omega)
                    have l_34 := bfx l_32 (by omega) fxi
                    rw [← hs0] at ble_33 kle_33
                    refine EW.region ?_
                    first | refine WL.move rfl rfl rfl ?_
                    first | refine WL.nilc rfl rfl rfl ?_
                    refine WL.field rfl rfl rfl (f115_1 q _) ?_
                    have htq34 := tq_34
                    obtain ⟨bvx34, tkx34⟩ := htq34
                    have blx34 := tkx34.bl
                    rw [decide_eq_true hsh2] at blx34
                    refine WL.load rfl rfl rfl (ldBo blx34 rfl) ?_
                    refine WL.done ?_
                    refine EW.on ?_
                    refine EW.cond_t rfl ?_
                    refine EW.seq ?_
                    refine EW.region ?_
                    refine WL.buildN [] rfl rfl rfl (bd33 _) ?_
                    obtain ⟨w9, s9, b9, f9⟩ := Sg.st (s := Sg.z) br_34 Sg.z_ok Sg.z_ok
                    refine WL.store rfl rfl rfl s9 ?_
                    first | refine WL.assign rfl rfl rfl ?_
                    refine WL.done ?_
                    refine EW.on ?_
                    refine EW.ret ?_
                    refine pr_then ?_
                    refine EW.returnsCT Try.results50 rfl rfl b9 Try.underlying33 rfl (by simpa using i33 Sg.z_ok) ⟨?_, bfx l_34 (by omega) f9⟩
                    have hE : parE c = 10 := doc_short2 h0 hv (by omega) (by omega) (by omega)
                    rw [(par_is c).1, (par_is c).2, parS, hE]
                    first | rfl | (rw [if_pos rfl]; rfl) | (rw [if_neg (by decide)]; rfl)
                  · have heT : eT c = 258 := by unfold eT; rw [hpT, hu2]; rw [if_pos (by omega)]
                    have hte : t = 32 := by omega
                    have ble_33 : Blk wi p (Sg.cs { s0 with hl := { s0.hl with id := s0.bind.take 32 } }) 33 := by
                      have h := bi
                      rw [hte, ouB_all, tkB_self (takeB ks0.bind)] at h
                      exact h
                    have kle_33 : Sg.ok { s0 with hl := { s0.hl with id := s0.bind.take 32 } } := ks0.s_hl ⟨takeB ks0.bind, ks0.hl.o, ks0.hl.p⟩
                    have tq_34 := tq_32.fx fxi (fun e => hqp e) (fun k hk => by have hk : k = p := hk; omega)
                    have br_34 := br_32.fx fxi (fun e => by omega)
                    have l_34 := bfx l_32 (by omega) fxi
                    rw [← hs0] at ble_33 kle_33
                    refine EW.region ?_
                    first | refine WL.move rfl rfl rfl ?_
                    first | refine WL.nilc rfl rfl rfl ?_
                    refine WL.field rfl rfl rfl (f115_1 q _) ?_
                    have htq34 := tq_34
                    obtain ⟨bvx34, tkx34⟩ := htq34
                    have blx34 := tkx34.bl
                    rw [decide_eq_false hsh2] at blx34
                    refine WL.load rfl rfl rfl (ldBo blx34 rfl) ?_
                    refine WL.done ?_
                    refine EW.on ?_
                    refine EW.cond_f rfl ?_
                    refine EW.skip ?_
                    refine EW.on ?_
                    refine EW.seq ?_
                    refine EW.seq ?_
                    by_cases htl2 : eT c < c.length
                    · refine EW.region ?_
                      first | refine WL.move rfl rfl rfl ?_
                      first | refine WL.nilc rfl rfl rfl ?_
                      refine WL.field rfl rfl rfl (f115_0 q _) ?_
                      have htq36 := tq_34
                      obtain ⟨bvy, tky⟩ := htq36
                      refine WL.load rfl rfl rfl (ldS tky.bl rfl) ?_
                      refine WL.len rfl rfl rfl (tky.hs.len _ _) ?_
                      refine WL.bin rfl rfl rfl rfl (int_gt_t (by rw [List.length_drop]; omega) _ _ _) ?_
                      refine WL.done ?_
                      refine EW.on ?_
                      refine EW.cond_t rfl ?_
                      refine EW.seq ?_
                      refine EW.region ?_
                      refine WL.buildN [] rfl rfl rfl (bd33 _) ?_
                      obtain ⟨w9, s9, b9, f9⟩ := Sg.st (s := Sg.z) br_34 Sg.z_ok Sg.z_ok
                      refine WL.store rfl rfl rfl s9 ?_
                      first | refine WL.assign rfl rfl rfl ?_
                      refine WL.done ?_
                      refine EW.on ?_
                      refine EW.ret ?_
                      refine pr_then ?_
                      refine EW.returnsCT Try.results50 rfl rfl b9 Try.underlying33 rfl (by simpa using i33 Sg.z_ok) ⟨?_, bfx l_34 (by omega) f9⟩
                      have hE : parE c = 11 := doc_tail h0 hv (by omega) (by omega) (by omega)
                      rw [(par_is c).1, (par_is c).2, parS, hE]
                      first | rfl | (rw [if_pos rfl]; rfl) | (rw [if_neg (by decide)]; rfl)
                    · refine EW.region ?_
                      first | refine WL.move rfl rfl rfl ?_
                      first | refine WL.nilc rfl rfl rfl ?_
                      refine WL.field rfl rfl rfl (f115_0 q _) ?_
                      have htq36 := tq_34
                      obtain ⟨bvy, tky⟩ := htq36
                      refine WL.load rfl rfl rfl (ldS tky.bl rfl) ?_
                      refine WL.len rfl rfl rfl (tky.hs.len _ _) ?_
                      refine WL.bin rfl rfl rfl rfl (int_gt_f (by rw [List.length_drop]; omega) _ _ _) ?_
                      refine WL.done ?_
                      refine EW.on ?_
                      refine EW.cond_f rfl ?_
                      refine EW.skip ?_
                      refine EW.on ?_
                      refine EW.seq ?_
                      have hgc : (Good (preS c) ∧ encD (preS c) = c) ∨ (Good (preS c) ∧ ¬ encD (preS c) = c) ∨ ¬ Good (preS c) := by
                        by_cases x1 : Good (preS c) <;> by_cases x2 : encD (preS c) = c <;> simp [x1, x2]
                      rcases hgc with ⟨hg, he⟩ | ⟨hg, he⟩ | hg
                      · have hlen : c.length = eT c := by omega
                        have hS : (⟨(tkC c 1 16), (tkC c 81 32), (tkC c 113 32), (tkC c 145 32), (tkC c 177 32), z32, z32, (numB (tkC c 209 4)), (numB (tkC c 213 4)), 0, 0, 0, (numB (tkC c 217 4)), (⟨((tkC c 17 64).take 32), (tkC c 222 32), (numB (tkC c 254 4))⟩ : Hl), (tkC c 17 64)⟩ : Sg) = preS c := by
                          rw [pre_tk (by omega) hlen, hpT, show oT c = 221 from by unfold oT; rw [if_neg h74], if_neg h74, if_neg h74, if_neg h74, if_neg h86, if_neg h86, hu2, if_pos (by omega)]
                        have bpS : Blk wi p (preS c).cs 33 := by rw [← hS]; exact ble_33
                        have kS : (preS c).ok := by rw [← hS]; exact kle_33
                        have hfin := doc_fin h0 hv (by omega) (by omega) hlen
                        refine EW.region ?_
                        refine WL.load rfl rfl rfl (Sg.ld bpS kS) ?_
                        refine WL.call [(preS c).v] enter47 rfl rfl rfl (rcheck_any _ kS _) ?_
                        rintro _ w38 ⟨rfl, e38⟩
                        rw [chkD, if_pos hg]
                        refine ⟨_, rfl, ?_⟩
                        have bp38 := bpS.on e38
                        have tq_35 := tq_34.below e38
                        have br_35 := br_34.on e38
                        have l_35 := bt l_34 e38
                        first | refine WL.assign rfl rfl rfl ?_
                        refine WL.done ?_
                        refine EW.on ?_
                        refine EW.seq ?_
                        refine EW.seq ?_
                        refine EW.ordB [(0, 0, 0), (1, 0, 0), (2, 0, 0), (3, 0, 1), (6, 0, 0), (7, 0, 1), (4, 1, 1), (5, 2, 0), (8, 0, 0), (9, 0, 0)] (by kernel_rfl) rfl (by kernel_rfl) ?_
                        simp only [opsZ, List.getD_cons_zero, List.getD_cons_succ]
                        first | refine ZE.move rfl rfl rfl rfl sz0 ?_
                        refine ZE.bin rfl rfl rfl rfl rfl sz0 (fun W => int_eq_t rfl W _ _) ?_
                        first | refine ZE.move rfl rfl rfl rfl sz0 ?_
                        refine ZE.load rfl rfl rfl rfl sz1 (fun W hW => Sg.ld (bp38.on (sb_of hW)) kS) ?_
                        refine ZE.move rfl rfl rfl rfl sz0 ?_
                        refine ZE.conv rfl rfl rfl rfl sz1 (fun W hW => ((hb.below l_35).below (sb_of hW)).convert) ?_
                        refine ZE.callR [(preS c).v] (fun v W => Ob W w38.heap.size v (encD (preS c)) ∧ Below w38.heap.size w38 W) enter65 rfl rfl rfl (fun _ _ h => .inr h.2) (fun W hW => (written_any _ kS W).mono fun e w' ⟨v, g1, g2, g3⟩ => ⟨v, g1, g2.lower hW.size, bt hW g3⟩) ?_
                        rintro vo ⟨_, _⟩
                        refine ZE.conv rfl rfl rfl rfl szC (fun W hW => hW.1.has.convert) ?_
                        refine ZE.bin rfl rfl rfl rfl rfl sz0 (fun W => (str_ne_d _ _ W _ _).trans (by rw [decide_eq_false (show ¬ ¬ encD (preS c) = c from fun h => h he)])) ?_
                        refine ZE.pick rfl rfl rfl rfl rfl sz0 ?_
                        intro w39 h39
                        have e39 := h39.2
                        have bp_36 := bp38.on e39
                        have tq_36 := tq_35.below e39
                        have br_36 := br_35.on e39
                        have l_36 := bt l_35 e39
                        refine EW.on ?_
                        refine EW.cond_f rfl ?_
                        refine EW.skip ?_
                        refine EW.on ?_
                        refine EW.seq ?_
                        refine EW.seq ?_
                        refine EW.region ?_
                        first | refine WL.move rfl rfl rfl ?_
                        refine WL.bin rfl rfl rfl rfl (int_ne_f rfl _ _ _) ?_
                        refine WL.done ?_
                        refine EW.on ?_
                        refine EW.cond_f rfl ?_
                        refine EW.skip ?_
                        refine EW.on ?_
                        refine EW.seq ?_
                        refine EW.region ?_
                        refine WL.load rfl rfl rfl (Sg.ld bp_36 kS) ?_
                        obtain ⟨w9, s9, b9, f9⟩ := Sg.st (s := (preS c)) br_36 Sg.z_ok kS
                        refine WL.store rfl rfl rfl s9 ?_
                        first | refine WL.assign rfl rfl rfl ?_
                        refine WL.done ?_
                        refine EW.on ?_
                        refine EW.ret ?_
                        refine EW.returnsCT Try.results50 rfl rfl b9 Try.underlying33 rfl (by simpa using i33 kS) ⟨?_, bfx l_36 (by omega) f9⟩
                        have hE : parE c = 0 := by rw [hfin, if_pos ⟨hg, he⟩]
                        rw [(par_is c).1, (par_is c).2, parS, hE]
                        first | rfl | (rw [if_pos rfl]; rfl) | (rw [if_neg (by decide)]; rfl)
                      · have hlen : c.length = eT c := by omega
                        have hS : (⟨(tkC c 1 16), (tkC c 81 32), (tkC c 113 32), (tkC c 145 32), (tkC c 177 32), z32, z32, (numB (tkC c 209 4)), (numB (tkC c 213 4)), 0, 0, 0, (numB (tkC c 217 4)), (⟨((tkC c 17 64).take 32), (tkC c 222 32), (numB (tkC c 254 4))⟩ : Hl), (tkC c 17 64)⟩ : Sg) = preS c := by
                          rw [pre_tk (by omega) hlen, hpT, show oT c = 221 from by unfold oT; rw [if_neg h74], if_neg h74, if_neg h74, if_neg h74, if_neg h86, if_neg h86, hu2, if_pos (by omega)]
                        have bpS : Blk wi p (preS c).cs 33 := by rw [← hS]; exact ble_33
                        have kS : (preS c).ok := by rw [← hS]; exact kle_33
                        have hfin := doc_fin h0 hv (by omega) (by omega) hlen
                        refine EW.region ?_
                        refine WL.load rfl rfl rfl (Sg.ld bpS kS) ?_
                        refine WL.call [(preS c).v] enter47 rfl rfl rfl (rcheck_any _ kS _) ?_
                        rintro _ w38 ⟨rfl, e38⟩
                        rw [chkD, if_pos hg]
                        refine ⟨_, rfl, ?_⟩
                        have bp38 := bpS.on e38
                        have tq_35 := tq_34.below e38
                        have br_35 := br_34.on e38
                        have l_35 := bt l_34 e38
                        first | refine WL.assign rfl rfl rfl ?_
                        refine WL.done ?_
                        refine EW.on ?_
                        refine EW.seq ?_
                        refine EW.seq ?_
                        refine EW.ordB [(0, 0, 0), (1, 0, 0), (2, 0, 0), (3, 0, 1), (6, 0, 0), (7, 0, 1), (4, 1, 1), (5, 2, 0), (8, 0, 0), (9, 0, 0)] (by kernel_rfl) rfl (by kernel_rfl) ?_
                        simp only [opsZ, List.getD_cons_zero, List.getD_cons_succ]
                        first | refine ZE.move rfl rfl rfl rfl sz0 ?_
                        refine ZE.bin rfl rfl rfl rfl rfl sz0 (fun W => int_eq_t rfl W _ _) ?_
                        first | refine ZE.move rfl rfl rfl rfl sz0 ?_
                        refine ZE.load rfl rfl rfl rfl sz1 (fun W hW => Sg.ld (bp38.on (sb_of hW)) kS) ?_
                        refine ZE.move rfl rfl rfl rfl sz0 ?_
                        refine ZE.conv rfl rfl rfl rfl sz1 (fun W hW => ((hb.below l_35).below (sb_of hW)).convert) ?_
                        refine ZE.callR [(preS c).v] (fun v W => Ob W w38.heap.size v (encD (preS c)) ∧ Below w38.heap.size w38 W) enter65 rfl rfl rfl (fun _ _ h => .inr h.2) (fun W hW => (written_any _ kS W).mono fun e w' ⟨v, g1, g2, g3⟩ => ⟨v, g1, g2.lower hW.size, bt hW g3⟩) ?_
                        rintro vo ⟨_, _⟩
                        refine ZE.conv rfl rfl rfl rfl szC (fun W hW => hW.1.has.convert) ?_
                        refine ZE.bin rfl rfl rfl rfl rfl sz0 (fun W => (str_ne_d _ _ W _ _).trans (by rw [decide_eq_true he])) ?_
                        refine ZE.pick rfl rfl rfl rfl rfl sz0 ?_
                        intro w39 h39
                        have e39 := h39.2
                        have bp_36 := bp38.on e39
                        have tq_36 := tq_35.below e39
                        have br_36 := br_35.on e39
                        have l_36 := bt l_35 e39
                        refine EW.on ?_
                        refine EW.cond_t rfl ?_
                        refine EW.region ?_
                        first | refine WL.assign rfl rfl rfl ?_
                        refine WL.done ?_
                        refine EW.on ?_
                        refine EW.seq ?_
                        refine EW.seq ?_
                        refine EW.region ?_
                        first | refine WL.move rfl rfl rfl ?_
                        refine WL.bin rfl rfl rfl rfl (int_ne_t (by decide) _ _ _) ?_
                        refine WL.done ?_
                        refine EW.on ?_
                        refine EW.cond_t rfl ?_
                        refine EW.seq ?_
                        refine EW.region ?_
                        refine WL.buildN [] rfl rfl rfl (bd33 _) ?_
                        first | refine WL.move rfl rfl rfl ?_
                        obtain ⟨w9, s9, b9, f9⟩ := Sg.st (s := Sg.z) br_36 Sg.z_ok Sg.z_ok
                        refine WL.store rfl rfl rfl s9 ?_
                        first | refine WL.assign rfl rfl rfl ?_
                        refine WL.done ?_
                        refine EW.on ?_
                        refine EW.ret ?_
                        refine pr_then ?_
                        refine EW.returnsCT Try.results50 rfl rfl b9 Try.underlying33 rfl (by simpa using i33 Sg.z_ok) ⟨?_, bfx l_36 (by omega) f9⟩
                        have hE : parE c = 180 := by rw [hfin, if_neg (fun h => he h.2)]
                        rw [(par_is c).1, (par_is c).2, parS, hE]
                        first | rfl | (rw [if_pos rfl]; rfl) | (rw [if_neg (by decide)]; rfl)
                      · have hlen : c.length = eT c := by omega
                        have hS : (⟨(tkC c 1 16), (tkC c 81 32), (tkC c 113 32), (tkC c 145 32), (tkC c 177 32), z32, z32, (numB (tkC c 209 4)), (numB (tkC c 213 4)), 0, 0, 0, (numB (tkC c 217 4)), (⟨((tkC c 17 64).take 32), (tkC c 222 32), (numB (tkC c 254 4))⟩ : Hl), (tkC c 17 64)⟩ : Sg) = preS c := by
                          rw [pre_tk (by omega) hlen, hpT, show oT c = 221 from by unfold oT; rw [if_neg h74], if_neg h74, if_neg h74, if_neg h74, if_neg h86, if_neg h86, hu2, if_pos (by omega)]
                        have bpS : Blk wi p (preS c).cs 33 := by rw [← hS]; exact ble_33
                        have kS : (preS c).ok := by rw [← hS]; exact kle_33
                        have hfin := doc_fin h0 hv (by omega) (by omega) hlen
                        refine EW.region ?_
                        refine WL.load rfl rfl rfl (Sg.ld bpS kS) ?_
                        refine WL.call [(preS c).v] enter47 rfl rfl rfl (rcheck_any _ kS _) ?_
                        rintro _ w38 ⟨rfl, e38⟩
                        rw [chkD, if_neg hg]
                        refine ⟨_, rfl, ?_⟩
                        have bp38 := bpS.on e38
                        have tq_35 := tq_34.below e38
                        have br_35 := br_34.on e38
                        have l_35 := bt l_34 e38
                        first | refine WL.assign rfl rfl rfl ?_
                        refine WL.done ?_
                        refine EW.on ?_
                        refine EW.seq ?_
                        refine EW.seq ?_
                        refine EW.ordB [(0, 0, 0), (1, 0, 0), (2, 0, 0), (3, 0, 1), (4, 0, 0), (5, 2, 0), (6, 0, 0), (7, 0, 1), (8, 0, 0), (9, 0, 0)] (by kernel_rfl) rfl (by kernel_rfl) ?_
                        simp only [opsZ, List.getD_cons_zero, List.getD_cons_succ]
                        first | refine ZE.move rfl rfl rfl rfl sz0 ?_
                        refine ZE.bin rfl rfl rfl rfl rfl sz0 (fun W => int_eq_f (by decide) W _ _) ?_
                        first | refine ZE.move rfl rfl rfl rfl sz0 ?_
                        refine ZE.skip rfl rfl rfl sz1 ?_
                        refine ZE.skip rfl rfl rfl sz0 ?_
                        refine ZE.skip rfl rfl rfl szC ?_
                        refine ZE.skip rfl rfl rfl sz0 ?_
                        refine ZE.skip rfl rfl rfl sz1 ?_
                        refine ZE.skip rfl rfl rfl sz0 ?_
                        refine ZE.pick rfl rfl rfl rfl rfl sz0 ?_
                        intro w39 e39
                        have bp_36 := bp38.on e39
                        have tq_36 := tq_35.below e39
                        have br_36 := br_35.on e39
                        have l_36 := bt l_35 e39
                        refine EW.on ?_
                        refine EW.cond_f rfl ?_
                        refine EW.skip ?_
                        refine EW.on ?_
                        refine EW.seq ?_
                        refine EW.seq ?_
                        refine EW.region ?_
                        first | refine WL.move rfl rfl rfl ?_
                        refine WL.bin rfl rfl rfl rfl (int_ne_t (by decide) _ _ _) ?_
                        refine WL.done ?_
                        refine EW.on ?_
                        refine EW.cond_t rfl ?_
                        refine EW.seq ?_
                        refine EW.region ?_
                        refine WL.buildN [] rfl rfl rfl (bd33 _) ?_
                        first | refine WL.move rfl rfl rfl ?_
                        obtain ⟨w9, s9, b9, f9⟩ := Sg.st (s := Sg.z) br_36 Sg.z_ok Sg.z_ok
                        refine WL.store rfl rfl rfl s9 ?_
                        first | refine WL.assign rfl rfl rfl ?_
                        refine WL.done ?_
                        refine EW.on ?_
                        refine EW.ret ?_
                        refine pr_then ?_
                        refine EW.returnsCT Try.results50 rfl rfl b9 Try.underlying33 rfl (by simpa using i33 Sg.z_ok) ⟨?_, bfx l_36 (by omega) f9⟩
                        have hE : parE c = 180 := by rw [hfin, if_neg (fun h => hg h.1)]
                        rw [(par_is c).1, (par_is c).2, parS, hE]
                        first | rfl | (rw [if_pos rfl]; rfl) | (rw [if_neg (by decide)]; rfl)
              · have hmm : numB (tkC c (pT c) 1) = u.toNat := by rw [hpT]; exact hu2
                refine EW.region ?_
                first | refine WL.move rfl rfl rfl ?_
                refine WL.bin rfl rfl rfl rfl (bgt_t (by omega) _ _ _) ?_
                refine WL.done ?_
                refine EW.on ?_
                refine EW.cond_t rfl ?_
                refine EW.seq ?_
                refine EW.region ?_
                refine WL.buildN [] rfl rfl rfl (bd33 _) ?_
                obtain ⟨w9, s9, b9, f9⟩ := Sg.st (s := Sg.z) br_26 Sg.z_ok Sg.z_ok
                refine WL.store rfl rfl rfl s9 ?_
                first | refine WL.assign rfl rfl rfl ?_
                refine WL.done ?_
                refine EW.on ?_
                refine EW.ret ?_
                refine pr_then ?_
                refine EW.returnsCT Try.results50 rfl rfl b9 Try.underlying33 rfl (by simpa using i33 Sg.z_ok) ⟨?_, bfx l_26 (by omega) f9⟩
                have hE : parE c = 180 := doc_bad h0 hv (by omega) (by omega)
                rw [(par_is c).1, (par_is c).2, parS, hE]
                first | rfl | (rw [if_pos rfl]; rfl) | (rw [if_neg (by decide)]; rfl)
    · refine EW.region ?_
      first | refine WL.move rfl rfl rfl ?_
      obtain ⟨u0, hu0⟩ := ofset (l := c) (j := 0) (by omega)
      obtain ⟨ad0, iu0, lu0⟩ := (hb.below e1).item hu0
      have hcut := cut0 hu0
      refine WL.index rfl rfl rfl rfl (iu0 _) ?_
      refine WL.load rfl rfl rfl lu0 ?_
      refine WL.bin rfl rfl rfl rfl (bne_t (by omega) _ _ _) ?_
      refine WL.done ?_
      refine EW.on ?_
      refine EW.cond_t rfl ?_
      refine EW.seq ?_
      refine EW.region ?_
      refine WL.buildN [] rfl rfl rfl (bd33 _) ?_
      obtain ⟨w9, s9, b9, f9⟩ := Sg.st (s := Sg.z) b1 Sg.z_ok Sg.z_ok
      refine WL.store rfl rfl rfl s9 ?_
      first | refine WL.assign rfl rfl rfl ?_
      refine WL.done ?_
      refine EW.on ?_
      refine EW.ret ?_
      refine pr_then ?_
      refine EW.returnsCT Try.results50 rfl rfl b9 Try.underlying33 rfl (by simpa using i33 Sg.z_ok) ⟨?_, bfx e1 (by omega) f9⟩
      have hE : parE c = 140 := by unfold parE; rw [if_neg h0, if_neg hv]
      rw [(par_is c).1, (par_is c).2, parS, hE]
      first | rfl | (rw [if_pos rfl]; rfl) | (rw [if_neg (by decide)]; rfl)
end Go.Proofs.Ytacimelcmkhhlaa
