import Derived.Test.YthlpfpggjkocmaaXf
set_option linter.unusedVariables false
set_option linter.unusedSimpArgs false
namespace Go.Proofs.Ythlpfpggjkocmaa
open Go.RowKit

theorem ext_3 (a b c : Value) (W : World) : (Instr.extract (.tuple #[a, b, c]) 0).run Try.prog W = .ok a W ∧ (Instr.extract (.tuple #[a, b, c]) 1).run Try.prog W = .ok b W ∧ (Instr.extract (.tuple #[a, b, c]) 2).run Try.prog W = .ok c W := ⟨by rfl, by rfl, by rfl⟩
theorem eq22s (q : Nat) (W : World) (x y : Operand) : (do eqGuard .eql 22 x y (.pointer (some ⟨q, 0, none⟩)) (.pointer none); binOp .eql 22 (.pointer (some ⟨q, 0, none⟩)) (.pointer none) : Sem Value).run Try.prog W = .ok (.bool false) W := by go_simp
theorem eq24n (W : World) (x : Operand) : (do eqGuard .eql 24 x (.const .nilIface) .nilIface .nilIface; binOp .eql 24 .nilIface .nilIface : Sem Value).run Try.prog W = .ok (.bool true) W := by
  have h : eqGuard .eql 24 x (.const .nilIface) .nilIface .nilIface = pure () := by
    unfold eqGuard
    cases x <;> simp
  rw [h]
  go_simp
theorem bld75 (W : World) : (Instr.build 75 [(0, .int .i64 1), (1, .int .u8 7)].toArray).run Try.prog W = .ok (.agg (paC 1 7).toArray) W := by kernel_rfl
theorem bsl76 (w : World) : (Instr.buildSlice 76 1 [(0, .agg (paC 1 7).toArray)].toArray).run Try.prog w = .ok (.slice (some ⟨w.heap.size, 0, none⟩) 1 1) (w.alloc (.cells (paC 1 7).toArray 75)) := by
  unfold paC byt
  go_simp
  try rfl
theorem eq7 (W : World) (x y : Operand) : (do eqGuard .eql 5 x y (byt 7) (.int .u8 7); binOp .eql 5 (byt 7) (.int .u8 7) : Sem Value).run Try.prog W = .ok (.bool true) W := by
  have := eq5 7 7 W x y
  rw [decide_eq_true rfl] at this
  exact this
theorem imgS_get : ∀ (N : Nat) (s : Nat → List UInt8), (∀ i, i < N → (s i).length = 512) → ∀ i j, i < N → j < 512 → (imgS N s)[512 * i + j]? = (s i)[j]?
  | 0, s, h, i, j, hi, hj => by omega
  | N + 1, s, h, i, j, hi, hj => by
    have hl := imgS_len N s (fun i hi => h i (by omega))
    unfold imgS at *
    rw [List.range_succ, List.flatMap_append, List.flatMap_cons, List.flatMap_nil, List.append_nil]
    by_cases e : i < N
    · rw [List.getElem?_append_left (by omega)]
      exact imgS_get N s (fun i hi => h i (by omega)) i j e hj
    · have e2 : i = N := by omega
      subst e2
      rw [List.getElem?_append_right (by omega)]
      congr 1
      omega
theorem chS_home (n : Nat) (s : Nat → List UInt8) (x : Pw) (h : x.n < n) : chS n s [x] (1 + 2 * (n + x.n)) = x.b.take 512 ∧ chS n s [x] (1 + 2 * (n + x.n) + 1) = x.b.drop 512 := by
  unfold chS
  simp only [List.foldl_cons, List.foldl_nil, bl1, hm1, pg2, setS]
  constructor
  · rw [if_neg (by omega), if_neg (by omega), if_neg (by omega), if_neg (by omega), if_neg (by omega), if_pos trivial]
  · rw [if_neg (by omega), if_neg (by omega), if_neg (by omega), if_neg (by omega), if_pos trivial]
theorem zS_at (i : Nat) : bAt zS i = 0 := by
  unfold bAt zS
  rw [List.getD_eq_getElem?_getD, List.getElem?_replicate]
  split <;> rfl
theorem pgB_5 (num : Nat) (fill : UInt8) : (pgB num fill)[5]? = some fill := by
  unfold pgB
  rw [List.getElem?_set_ne (by decide), List.getElem?_set_ne (by decide), List.getElem?_replicate]
  rfl
set_option maxRecDepth 100000 in
set_option maxHeartbeats 1000000 in
theorem fixed_ok (w : World) : Calls Try.prog 7 #[] w fun e w' => e = .returned (.bool true) ∧ Below w.heap.size w w' := by
  refine calls_of_args [] Try.func7 rfl 72 Try.ntmps7 (by show 0 ≤ 72; decide) ?_
  refine EW.seq ?_
  refine EW.region ?_
  first | refine WL.assign rfl rfl rfl ?_
  refine WL.done ?_
  refine EW.on ?_
  refine EW.seq ?_
  refine EW.region ?_
  refine WL.call [.int .i64 ((9 : Nat) : Int)] enter34 rfl rfl rfl (new_any 9 (by decide) (by decide) w) ?_
  rintro _ w1 ⟨rfl, hz1⟩
  obtain ⟨L, hLp, hLF, dk0⟩ := Dk.new w 9 (zer 9) (by decide) (by decide) (zer_length 9)
  have e1 : Below w.heap.size w w1 := by rw [hz1]; exact newW_below _ _ _
  have d1 : Dk w1 L 9 (fun _ => zS) 0 0 := by rw [hz1]; exact dk0.congr (fun i hi => secB_zer 9 i hi)
  rw [← hLp]
  refine ⟨_, rfl, ?_⟩
  first | refine WL.move rfl rfl rfl ?_
  first | refine WL.extract rfl rfl rfl (ext_2 _ _ _).1 ?_
  first | refine WL.extract rfl rfl rfl (ext_2 _ _ _).2 ?_
  first | refine WL.assign rfl rfl rfl ?_
  first | refine WL.assign rfl rfl rfl ?_
  refine WL.done ?_
  refine EW.on ?_
  refine EW.seq ?_
  refine EW.region ?_
  first | refine WL.move rfl rfl rfl ?_
  refine WL.call [.pointer (some ⟨L.p, 0, none⟩)] enter5 rfl rfl rfl (open_zero d1 2 (by decide) (by decide) (by decide) (by decide) (by decide) (zS_at 511)) ?_
  rintro _ w2 ⟨vg, L2, c2, rfl, ⟨q, hvg, hqb, lg2⟩, hgF, t2, dk2, _, hc2⟩
  have hc20 : c2 = 0 := hc2 (fun _ _ _ => zB_zS)
  subst hc20
  have hq2 : ¬ L2.F q := hgF q hqb ⟨q, hvg, rfl⟩
  have d2 : Dk w2 L2 9 (fun _ => zS) 0 0 := dk2.congr (fun i hi => by unfold wipS; split <;> rfl)
  rw [hvg]
  refine ⟨_, rfl, ?_⟩
  first | refine WL.move rfl rfl rfl ?_
  refine WL.extract rfl rfl rfl (ext_3 _ _ _ _).1 ?_
  refine WL.extract rfl rfl rfl (ext_3 _ _ _ _).2.1 ?_
  refine WL.extract rfl rfl rfl (ext_3 _ _ _ _).2.2 ?_
  first | refine WL.assign rfl rfl rfl ?_
  first | refine WL.assign rfl rfl rfl ?_
  first | refine WL.assign rfl rfl rfl ?_
  refine WL.done ?_
  refine EW.on ?_
  refine EW.seq ?_
  refine EW.seq ?_
  refine EW.region ?_
  first | refine WL.move rfl rfl rfl ?_
  refine WL.bin rfl rfl rfl rfl (ne24n _ _) ?_
  first | refine WL.move rfl rfl rfl ?_
  first | refine WL.move rfl rfl rfl ?_ | refine WL.skip _ rfl rfl rfl ?_
  refine WL.bin rfl rfl rfl rfl (eq22s q _ _ _) ?_
  first | refine WL.pick rfl rfl rfl rfl ?_
  first | refine WL.move rfl rfl rfl ?_
  first | refine WL.move rfl rfl rfl ?_ | refine WL.skip _ rfl rfl rfl ?_
  first | refine WL.pick rfl rfl rfl rfl ?_
  first | refine WL.move rfl rfl rfl ?_
  first | refine WL.move rfl rfl rfl ?_ | refine WL.skip _ rfl rfl rfl ?_
  refine WL.call [.pointer (some ⟨q, 0, none⟩)] enter35 rfl rfl rfl (pages_any lg2) ?_
  rintro _ w3 ⟨rfl, hz3⟩
  rw [hz3]
  refine ⟨_, rfl, ?_⟩
  refine WL.bin rfl rfl rfl rfl (int_ne_f rfl _ _ _) ?_
  first | refine WL.pick rfl rfl rfl rfl ?_
  refine WL.done ?_
  refine EW.on ?_
  refine EW.cond_f rfl ?_
  refine EW.skip ?_
  refine EW.on ?_
  refine EW.seq ?_
  refine EW.region ?_
  first | refine WL.move rfl rfl rfl ?_
  refine WL.buildN [(0, .int .i64 1), (1, .int .u8 7)] rfl rfl rfl (bld75 _) ?_
  refine WL.bslN [(0, .agg (paC 1 7).toArray)] rfl rfl rfl (bsl76 w2) ?_
  have e4 := below_new w2 (.cells (paC 1 7).toArray 75)
  have b4 := Blk.new w2 (paC 1 7) 75
  obtain ⟨w4, hw4⟩ : ∃ w4, w2.alloc (.cells (paC 1 7).toArray 75) = w4 := ⟨_, rfl⟩
  rw [hw4] at e4 b4
  rw [hw4]
  refine WL.call [.slice (some ⟨w2.heap.size, 0, none⟩) 1 1, .bool false] enter37 rfl rfl rfl (list_1 (by decide) b4) ?_
  rintro _ w5 ⟨v5, vb, rfl, p5, e5, hvb⟩
  have e45 := e4.trans (e5.mono e4.size)
  have d5 := d2.below e45
  have lg5 := lg2.on e45
  obtain ⟨x, hx⟩ : ∃ x, (⟨1, vb, pgB 1 7⟩ : Pw) = x := ⟨_, rfl⟩
  have hxn : x.n = 1 := by rw [← hx]
  have hxb : x.b = pgB 1 7 := by rw [← hx]
  have hxv : x.v = vb := by rw [← hx]
  rw [hx] at p5
  obtain ⟨g5, cp5, hv5⟩ : ∃ g cp, v5 = .slice (some ⟨g, 0, none⟩) 1 cp := by
      obtain ⟨_, ⟨_, h0⟩ | ⟨g, cp, cur, e, _⟩⟩ := p5.row
      · cases h0
      · exact ⟨g, cp, e⟩
  subst hv5
  refine ⟨_, rfl, ?_⟩
  refine WL.call [.pointer (some ⟨q, 0, none⟩), .slice (some ⟨g5, 0, none⟩) 1 cp5] enter36 rfl rfl rfl (commit_1 d5 (n := 2) (by rw [t2.p]; exact lg5) (by decide) (by decide) (by decide) (by decide) p5 (by rw [hxn]; decide) (fun k hk hF => by rw [hxv] at hk; have := (hvb k hk).1; have := d2.lt k hF; have := e4.size; omega) (fun k hk => by rw [hxv] at hk; exact (hvb k hk).2)) ?_
  rintro _ w6 ⟨rfl, L6, t6, d6⟩
  have lg6 := lg5.fx t6.fx hq2
  have hS7 : (chS 2 (fun _ => zS) [x]) 7 = x.b.take 512 := by have := (chS_home 2 (fun _ => zS) x (by rw [hxn]; decide)).1; rw [hxn] at this; exact this
  have hS8 : (chS 2 (fun _ => zS) [x]) 8 = x.b.drop 512 := by have := (chS_home 2 (fun _ => zS) x (by rw [hxn]; decide)).2; rw [hxn] at this; exact this
  refine ⟨_, rfl, ?_⟩
  first | refine WL.assign rfl rfl rfl ?_
  refine WL.done ?_
  refine EW.on ?_
  refine EW.seq ?_
  refine EW.region ?_
  first | refine WL.move rfl rfl rfl ?_
  refine WL.call [.pointer (some ⟨q, 0, none⟩), .int .i64 ((1 : Nat) : Int)] enter38 rfl rfl rfl (read_log (n := 2) d6 (by rw [t6.p, t2.p]; exact lg6) (by decide) (by decide) 1 (by decide)) ?_
  rintro _ w7 ⟨u, rfl, o7, e7⟩
  have o7' : Ob w7 w6.heap.size u (pgB 1 7) := by
      have : (chS 2 (fun _ => zS) [x]) (1 + 2 * (2 + 1)) ++ (chS 2 (fun _ => zS) [x]) (1 + 2 * (2 + 1) + 1) = pgB 1 7 := by
        show (chS 2 (fun _ => zS) [x]) 7 ++ (chS 2 (fun _ => zS) [x]) 8 = _
        rw [hS7, hS8, List.take_append_drop, hxb]
      rw [this] at o7
      exact o7
  have d7 := d6.below e7
  refine ⟨_, rfl, ?_⟩
  first | refine WL.move rfl rfl rfl ?_
  first | refine WL.extract rfl rfl rfl (ext_2 _ _ _).1 ?_
  first | refine WL.extract rfl rfl rfl (ext_2 _ _ _).2 ?_
  first | refine WL.assign rfl rfl rfl ?_
  first | refine WL.assign rfl rfl rfl ?_
  refine WL.done ?_
  refine EW.on ?_
  refine EW.seq ?_
  refine EW.region ?_
  first | refine WL.move rfl rfl rfl ?_
  refine WL.bin rfl rfl rfl rfl (eq24n _ _) ?_
  first | refine WL.move rfl rfl rfl ?_
  first | refine WL.move rfl rfl rfl ?_ | refine WL.skip _ rfl rfl rfl ?_
  refine WL.bin rfl rfl rfl rfl (eq24n _ _) ?_
  first | refine WL.pick rfl rfl rfl rfl ?_
  first | refine WL.move rfl rfl rfl ?_
  first | refine WL.move rfl rfl rfl ?_ | refine WL.skip _ rfl rfl rfl ?_
  refine WL.len rfl rfl rfl (o7'.has.len _ _) ?_
  refine WL.bin rfl rfl rfl rfl (int_eq_t (by rw [pgB_len]; rfl) _ _ _) ?_
  first | refine WL.pick rfl rfl rfl rfl ?_
  first | refine WL.move rfl rfl rfl ?_
  first | refine WL.move rfl rfl rfl ?_ | refine WL.skip _ rfl rfl rfl ?_
  obtain ⟨a7, i7, l7⟩ := o7'.has.item (pgB_5 1 7)
  refine WL.index rfl rfl rfl rfl (i7 _) ?_
  refine WL.load rfl rfl rfl l7 ?_
  refine WL.bin rfl rfl rfl rfl (eq7 _ _ _) ?_
  first | refine WL.pick rfl rfl rfl rfl ?_
  first | refine WL.move rfl rfl rfl ?_
  first | refine WL.move rfl rfl rfl ?_ | refine WL.skip _ rfl rfl rfl ?_
  refine WL.call [.pointer (some ⟨L.p, 0, none⟩)] enter15 rfl rfl rfl (by rw [← t2.p, ← t6.p]; exact kimage_any d7) ?_
  rintro _ w8 ⟨ui, rfl, o8, e8⟩
  refine ⟨_, rfl, ?_⟩
  have hget : (imgS 9 (chS 2 (fun _ => zS) [x]))[3589]? = some 7 := by
      have := imgS_get 9 (chS 2 (fun _ => zS) [x]) (fun i hi => d7.len i hi) 7 5 (by decide) (by decide)
      rw [hS7, List.getElem?_take_of_lt (by decide), hxb, pgB_5] at this
      exact this
  obtain ⟨a8, i8, l8⟩ := o8.has.item hget
  refine WL.index rfl rfl rfl rfl (i8 _) ?_
  refine WL.load rfl rfl rfl l8 ?_
  refine WL.bin rfl rfl rfl rfl (eq7 _ _ _) ?_
  first | refine WL.pick rfl rfl rfl rfl ?_
  first | refine WL.move rfl rfl rfl ?_
  first | refine WL.move rfl rfl rfl ?_ | refine WL.skip _ rfl rfl rfl ?_
  refine WL.call [.pointer (some ⟨L.p, 0, none⟩)] enter39 rfl rfl rfl (by rw [← t2.p, ← t6.p]; exact kcalls_any (d7.below e8)) ?_
  rintro _ w9 ⟨rfl, hz9⟩
  rw [hz9]
  refine ⟨_, rfl, ?_⟩
  refine WL.bin rfl rfl rfl rfl (int_eq_t rfl _ _ _) ?_
  first | refine WL.pick rfl rfl rfl rfl ?_
  first | refine WL.assign rfl rfl rfl ?_
  refine WL.done ?_
  refine EW.on ?_
  refine EW.ret ?_
  exact EW.returns Try.results7 rfl ⟨rfl, (by
    have k2 := e1.trans (t2.fx.below (fun k hk hF => by have := hLF k hF; omega) e1.size)
    have k5 := k2.trans (e45.mono k2.size)
    have k6 := k5.trans (t6.fx.below (fun k hk hF => (t2.own k hF).elim (fun h => by have := hLF k h; omega) (fun h => by have := e1.size; omega)) k5.size)
    have k7 := k6.trans (e7.mono k6.size)
    exact k7.trans (e8.mono k7.size))⟩
end Go.Proofs.Ythlpfpggjkocmaa
