import Derived.Test.YtmbgeojjklboeaaGreatDoorXfG
import Derived.Test.YtmbgeojjklboeaaGreatDoorOz
set_option linter.unusedVariables false
set_option linter.unusedSimpArgs false
namespace Go.Proofs.YtmbgeojjklboeaaGreatDoor
open Go.RowKit

theorem ext_3 (a b c : Value) (W : World) : (Instr.extract (.tuple #[a, b, c]) 0).run Tryz.prog W = .ok a W ∧ (Instr.extract (.tuple #[a, b, c]) 1).run Tryz.prog W = .ok b W ∧ (Instr.extract (.tuple #[a, b, c]) 2).run Tryz.prog W = .ok c W := ⟨by rfl, by rfl, by rfl⟩
theorem eq22s (q : Nat) (W : World) (x y : Operand) : (do eqGuard .eql 37 x y (.pointer (some ⟨q, 0, none⟩)) (.pointer none); binOp .eql 37 (.pointer (some ⟨q, 0, none⟩)) (.pointer none) : Sem Value).run Tryz.prog W = .ok (.bool false) W := by go_simp
theorem eq24n (W : World) (x : Operand) : (do eqGuard .eql 46 x (.const .nilIface) .nilIface .nilIface; binOp .eql 46 .nilIface .nilIface : Sem Value).run Tryz.prog W = .ok (.bool true) W := by
  have h : eqGuard .eql 46 x (.const .nilIface) .nilIface .nilIface = pure () := by
    unfold eqGuard
    cases x <;> simp
  rw [h]
  go_simp
theorem bld75 (W : World) : (Instr.build 55 [(0, .int .i64 1), (1, .int .u8 7)].toArray).run Tryz.prog W = .ok (.agg (paC 1 7).toArray) W := by kernel_rfl
theorem bsl76 (w : World) : (Instr.buildSlice 30 1 [(0, .agg (paC 1 7).toArray)].toArray).run Tryz.prog w = .ok (.slice (some ⟨w.heap.size, 0, none⟩) 1 1) (w.alloc (.cells (paC 1 7).toArray 55)) := by
  unfold paC byt
  go_simp
  try rfl
theorem eq7 (W : World) (x y : Operand) : (do eqGuard .eql 5 x y (byt 7) (.int .u8 7); binOp .eql 5 (byt 7) (.int .u8 7) : Sem Value).run Tryz.prog W = .ok (.bool true) W := by
  have := eq5 7 7 W x y
  rw [decide_eq_true rfl] at this
  exact this
theorem imgS_get : ∀ (N : Nat) (s : Nat → List UInt8), (∀ i, i < N → (s i).length = 512) → ∀ i j, i < N → j < 512 → (imgS N s)[512 * i + j]? = (s i)[j]?
  | 0, s, h, i, j, hi, hj => by omega
  | N + 1, s, h, i, j, hi, hj => by
    have hl := imgS_len N s (fun i hi => h i (by omega))
    unfold imgS at *
    rw [List.range_succ, List.flatMap_append, List.flatMap_cons, List.flatMap_nil, List.append_nil]
    by_cases e : i < N
    · rw [List.getElem?_append_left (by omega)]
      exact imgS_get N s (fun i hi => h i (by omega)) i j e hj
    · have e2 : i = N := by omega
      subst e2
      rw [List.getElem?_append_right (by omega)]
      congr 1
      omega
theorem chS_home (n : Nat) (s : Nat → List UInt8) (x : Pw) (h : x.n < n) : chS n s [x] (1 + 2 * (n + x.n)) = x.b.take 512 ∧ chS n s [x] (1 + 2 * (n + x.n) + 1) = x.b.drop 512 := by
  unfold chS
  simp only [List.foldl_cons, List.foldl_nil, bl1, hm1, pg2, setS]
  constructor
  · rw [if_neg (by omega), if_neg (by omega), if_neg (by omega), if_neg (by omega), if_neg (by omega), if_pos trivial]
  · rw [if_neg (by omega), if_neg (by omega), if_neg (by omega), if_neg (by omega), if_pos trivial]
theorem zS_at (i : Nat) : bAt zS i = 0 := by
  unfold bAt zS
  rw [List.getD_eq_getElem?_getD, List.getElem?_replicate]
  split <;> rfl
theorem pgB_5 (num : Nat) (fill : UInt8) : (pgB num fill)[5]? = some fill := by
  unfold pgB
  rw [List.getElem?_set_ne (by decide), List.getElem?_set_ne (by decide), List.getElem?_replicate]
  rfl
set_option maxRecDepth 100000 in
set_option maxHeartbeats 1000000 in
theorem fixed_ok (w : World) : Calls Tryz.prog 5 #[] w fun e w' => e = .returned (.bool true) ∧ Below w.heap.size w w' := by
  refine calls_of_args [] Tryz.func5 rfl 72 Tryz.ntmps5 (by show 0 ≤ 72; decide) ?_; refine EW.seq ?_; refine EW.region ?_; refine WL.assign rfl rfl rfl ?_; refine WL.done ?_; refine EW.on ?_; refine EW.seq ?_; refine EW.region ?_; refine WL.call [.int .i64 ((9 : Nat) : Int)] enter9 rfl rfl rfl (new_any 9 (by decide) (by decide) w) ?_
  rintro _ w1 ⟨rfl, hz1⟩
  obtain ⟨L, hLp, hLF, dk0⟩ := Dk.new w 9 (zer 9) (by decide) (by decide) (zer_length 9)
  have e1 : Below w.heap.size w w1 := by rw [hz1]; exact newW_below _ _ _
  have d1 : Dk w1 L 9 (fun _ => zS) 0 0 := by rw [hz1]; exact dk0.congr (fun i hi => secB_zer 9 i hi)
  rw [← hLp]
  refine ⟨_, rfl, ?_⟩; refine WL.move rfl rfl rfl ?_; refine WL.extract rfl rfl rfl (ext_2 _ _ _).1 ?_; refine WL.extract rfl rfl rfl (ext_2 _ _ _).2 ?_; refine WL.assign rfl rfl rfl ?_; refine WL.assign rfl rfl rfl ?_; refine WL.done ?_; refine EW.on ?_; refine EW.seq ?_; refine EW.region ?_; refine WL.move rfl rfl rfl ?_; refine WL.call [.pointer (some ⟨L.p, 0, none⟩)] enter11 rfl rfl rfl (open_zero d1 2 (by decide) (by decide) (by decide) (by decide) (by decide) (zS_at 511)) ?_
  rintro _ w2 ⟨vg, L2, c2, rfl, ⟨q, hvg, hqb, lg2⟩, hgF, t2, dk2, _, hc2⟩
  have hc20 : c2 = 0 := hc2 (fun _ _ _ => zB_zS)
  subst hc20
  have hq2 : ¬ L2.F q := hgF q hqb ⟨q, hvg, rfl⟩
  have d2 : Dk w2 L2 9 (fun _ => zS) 0 0 := dk2.congr (fun i hi => by unfold wipS; split <;> rfl)
  rw [hvg]
  refine ⟨_, rfl, ?_⟩; refine WL.move rfl rfl rfl ?_; refine WL.extract rfl rfl rfl (ext_3 _ _ _ _).1 ?_; refine WL.extract rfl rfl rfl (ext_3 _ _ _ _).2.1 ?_; refine WL.extract rfl rfl rfl (ext_3 _ _ _ _).2.2 ?_; refine WL.assign rfl rfl rfl ?_; refine WL.assign rfl rfl rfl ?_; refine WL.assign rfl rfl rfl ?_; refine WL.done ?_; refine EW.on ?_; refine EW.seq ?_; refine EW.seq ?_; refine EW.region ?_; refine WL.move rfl rfl rfl ?_; refine WL.bin rfl rfl rfl rfl (ne24n _ _) ?_; refine WL.move rfl rfl rfl ?_
  first | refine WL.move rfl rfl rfl ?_ | refine WL.skip _ rfl rfl rfl ?_
  refine WL.bin rfl rfl rfl rfl (eq22s q _ _ _) ?_; refine WL.pick rfl rfl rfl rfl ?_; refine WL.move rfl rfl rfl ?_
  first | refine WL.move rfl rfl rfl ?_ | refine WL.skip _ rfl rfl rfl ?_
  refine WL.pick rfl rfl rfl rfl ?_; refine WL.move rfl rfl rfl ?_
  first | refine WL.move rfl rfl rfl ?_ | refine WL.skip _ rfl rfl rfl ?_
  refine WL.call [.pointer (some ⟨q, 0, none⟩)] enter12 rfl rfl rfl (pages_any lg2) ?_
  rintro _ w3 ⟨rfl, hz3⟩
  rw [hz3]
  refine ⟨_, rfl, ?_⟩; refine WL.bin rfl rfl rfl rfl (int_ne_f rfl _ _ _) ?_; refine WL.pick rfl rfl rfl rfl ?_; refine WL.done ?_; refine EW.on ?_; refine EW.cond_f rfl ?_; refine EW.skip ?_; refine EW.on ?_; refine EW.seq ?_; refine EW.region ?_; refine WL.move rfl rfl rfl ?_; refine WL.buildN [(0, .int .i64 1), (1, .int .u8 7)] rfl rfl rfl (bld75 _) ?_; refine WL.bslN [(0, .agg (paC 1 7).toArray)] rfl rfl rfl (bsl76 w2) ?_
  have e4 := below_new w2 (.cells (paC 1 7).toArray 55)
  have b4 := Blk.new w2 (paC 1 7) 55
  obtain ⟨w4, hw4⟩ : ∃ w4, w2.alloc (.cells (paC 1 7).toArray 55) = w4 := ⟨_, rfl⟩
  rw [hw4] at e4 b4
  rw [hw4]
  refine WL.call [.slice (some ⟨w2.heap.size, 0, none⟩) 1 1, .bool false] enter15 rfl rfl rfl (list_1 (by decide) b4) ?_
  rintro _ w5 ⟨v5, vb, rfl, p5, e5, hvb⟩
  have e45 := e4.trans (e5.mono e4.size)
  have d5 := d2.below e45
  have lg5 := lg2.on e45
  obtain ⟨x, hx⟩ : ∃ x, (⟨1, vb, pgB 1 7⟩ : Pw) = x := ⟨_, rfl⟩
  have hxn : x.n = 1 := by rw [← hx]
  have hxb : x.b = pgB 1 7 := by rw [← hx]
  have hxv : x.v = vb := by rw [← hx]
  rw [hx] at p5
  obtain ⟨g5, cp5, hv5⟩ : ∃ g cp, v5 = .slice (some ⟨g, 0, none⟩) 1 cp := by
      obtain ⟨_, ⟨_, h0⟩ | ⟨g, cp, cur, e, _⟩⟩ := p5.row
      · cases h0
      · exact ⟨g, cp, e⟩
  subst hv5
  refine ⟨_, rfl, ?_⟩; refine WL.call [.pointer (some ⟨q, 0, none⟩), .slice (some ⟨g5, 0, none⟩) 1 cp5] enter14 rfl rfl rfl (commit_1 d5 (n := 2) (by rw [t2.p]; exact lg5) (by decide) (by decide) (by decide) (by decide) p5 (by rw [hxn]; decide) (fun k hk hF => by rw [hxv] at hk; have := (hvb k hk).1; have := d2.lt k hF; have := e4.size; omega) (fun k hk => by rw [hxv] at hk; exact (hvb k hk).2)) ?_
  rintro _ w6 ⟨rfl, L6, t6, d6⟩
  have lg6 := lg5.fx t6.fx hq2
  have hS7 : (chS 2 (fun _ => zS) [x]) 7 = x.b.take 512 := by have := (chS_home 2 (fun _ => zS) x (by rw [hxn]; decide)).1; rw [hxn] at this; exact this
  have hS8 : (chS 2 (fun _ => zS) [x]) 8 = x.b.drop 512 := by have := (chS_home 2 (fun _ => zS) x (by rw [hxn]; decide)).2; rw [hxn] at this; exact this
  refine ⟨_, rfl, ?_⟩; refine WL.assign rfl rfl rfl ?_; refine WL.done ?_; refine EW.on ?_; refine EW.seq ?_; refine EW.region ?_; refine WL.move rfl rfl rfl ?_; refine WL.call [.pointer (some ⟨q, 0, none⟩), .int .i64 ((1 : Nat) : Int)] enter16 rfl rfl rfl (read_log (n := 2) d6 (by rw [t6.p, t2.p]; exact lg6) (by decide) (by decide) 1 (by decide)) ?_
  rintro _ w7 ⟨u, rfl, o7, e7⟩
  have o7' : Ob w7 w6.heap.size u (pgB 1 7) := by
      have : (chS 2 (fun _ => zS) [x]) (1 + 2 * (2 + 1)) ++ (chS 2 (fun _ => zS) [x]) (1 + 2 * (2 + 1) + 1) = pgB 1 7 := by
        show (chS 2 (fun _ => zS) [x]) 7 ++ (chS 2 (fun _ => zS) [x]) 8 = _
        rw [hS7, hS8, List.take_append_drop, hxb]
      rw [this] at o7
      exact o7
  have d7 := d6.below e7
  refine ⟨_, rfl, ?_⟩; refine WL.move rfl rfl rfl ?_; refine WL.extract rfl rfl rfl (ext_2 _ _ _).1 ?_; refine WL.extract rfl rfl rfl (ext_2 _ _ _).2 ?_; refine WL.assign rfl rfl rfl ?_; refine WL.assign rfl rfl rfl ?_; refine WL.done ?_; refine EW.on ?_; refine EW.seq ?_; refine EW.region ?_; refine WL.move rfl rfl rfl ?_; refine WL.bin rfl rfl rfl rfl (eq24n _ _) ?_; refine WL.move rfl rfl rfl ?_
  first | refine WL.move rfl rfl rfl ?_ | refine WL.skip _ rfl rfl rfl ?_
  refine WL.bin rfl rfl rfl rfl (eq24n _ _) ?_; refine WL.pick rfl rfl rfl rfl ?_; refine WL.move rfl rfl rfl ?_
  first | refine WL.move rfl rfl rfl ?_ | refine WL.skip _ rfl rfl rfl ?_
  refine WL.len rfl rfl rfl (o7'.has.len _ _) ?_; refine WL.bin rfl rfl rfl rfl (int_eq_t (by rw [pgB_len]; rfl) _ _ _) ?_; refine WL.pick rfl rfl rfl rfl ?_; refine WL.move rfl rfl rfl ?_
  first | refine WL.move rfl rfl rfl ?_ | refine WL.skip _ rfl rfl rfl ?_
  obtain ⟨a7, i7, l7⟩ := o7'.has.item (pgB_5 1 7)
  refine WL.index rfl rfl rfl rfl (i7 _) ?_; refine WL.load rfl rfl rfl l7 ?_; refine WL.bin rfl rfl rfl rfl (eq7 _ _ _) ?_; refine WL.pick rfl rfl rfl rfl ?_; refine WL.move rfl rfl rfl ?_
  first | refine WL.move rfl rfl rfl ?_ | refine WL.skip _ rfl rfl rfl ?_
  refine WL.call [.pointer (some ⟨L.p, 0, none⟩)] enter17 rfl rfl rfl (by rw [← t2.p, ← t6.p]; exact kimage_any d7) ?_
  rintro _ w8 ⟨ui, rfl, o8, e8⟩
  refine ⟨_, rfl, ?_⟩
  have hget : (imgS 9 (chS 2 (fun _ => zS) [x]))[3589]? = some 7 := by
      have := imgS_get 9 (chS 2 (fun _ => zS) [x]) (fun i hi => d7.len i hi) 7 5 (by decide) (by decide)
      rw [hS7, List.getElem?_take_of_lt (by decide), hxb, pgB_5] at this
      exact this
  obtain ⟨a8, i8, l8⟩ := o8.has.item hget
  refine WL.index rfl rfl rfl rfl (i8 _) ?_; refine WL.load rfl rfl rfl l8 ?_; refine WL.bin rfl rfl rfl rfl (eq7 _ _ _) ?_; refine WL.pick rfl rfl rfl rfl ?_; refine WL.move rfl rfl rfl ?_
  first | refine WL.move rfl rfl rfl ?_ | refine WL.skip _ rfl rfl rfl ?_
  refine WL.call [.pointer (some ⟨L.p, 0, none⟩)] enter18 rfl rfl rfl (by rw [← t2.p, ← t6.p]; exact kcalls_any (d7.below e8)) ?_
  rintro _ w9 ⟨rfl, hz9⟩
  rw [hz9]
  refine ⟨_, rfl, ?_⟩; refine WL.bin rfl rfl rfl rfl (int_eq_t rfl _ _ _) ?_; refine WL.pick rfl rfl rfl rfl ?_; refine WL.assign rfl rfl rfl ?_; refine WL.done ?_; refine EW.on ?_; refine EW.ret ?_
  exact EW.returns Tryz.results5 rfl ⟨rfl, (by
    have k2 := e1.trans (t2.fx.below (fun k hk hF => by have := hLF k hF; omega) e1.size)
    have k5 := k2.trans (e45.mono k2.size)
    have k6 := k5.trans (t6.fx.below (fun k hk hF => (t2.own k hF).elim (fun h => by have := hLF k h; omega) (fun h => by have := e1.size; omega)) k5.size)
    have k7 := k6.trans (e7.mono k6.size)
    exact k7.trans (e8.mono k7.size))⟩
end Go.Proofs.YtmbgeojjklboeaaGreatDoor

set_option linter.unusedVariables false
set_option linter.unusedSimpArgs false
namespace Go.Proofs.YtmbgeojjklboeaaGreatDoor
open Go.RowKit

section
variable {P : Program} {ops : Array Oper} {Q : Exit → Act → World → Prop} {md : Region.Mode} {lev : Nat → Nat}
theorem wpAnyZ_mono {S S' : Nat → World → Prop} (hS : ∀ n w, S' n w → S n w) : ∀ (m : Nat) (listed : Array Bool) (a : Act) (C : World → Prop), wpAnyZ P md ops Q (fun _ _ => False) S' lev m listed a C → wpAnyZ P md ops Q (fun _ _ => False) S lev m listed a C
  | 0, _, _, _, h => h
  | m + 1, listed, a, C, h => by
    unfold wpAnyZ at h ⊢
    split at h
    · rename_i hf
      rw [if_pos hf]
      exact h
    · rename_i hf
      rw [if_neg hf]
      refine ⟨h.1, fun i hi => ?_⟩
      obtain ⟨o, ho, ⟨v, hv, h2⟩ | ⟨hl, hg, C', h1, h2, h3⟩⟩ := h.2 i hi
      · exact ⟨o, ho, .inl ⟨v, hv, wpAnyZ_mono hS m _ _ _ h2⟩⟩
      · exact ⟨o, ho, .inr ⟨hl, hg, C', fun v w hw => hS _ w (h1 v w hw), h2, fun v hv => wpAnyZ_mono hS m _ _ _ (h3 v hv)⟩⟩
def okS (md : Region.Mode) (ops : Array Oper) (lev : Nat → Nat) : List Zk → Array Bool → Bool
  | [], _ => true
  | (k, c, l) :: r, listed => bif c == 1 then (Region.ready md ops listed == [k]) && decide (k < ops.size) && !full ops.size listed && (lev k == l) && (l != 99) && okS md ops lev r (listed.setIfInBounds k true)
    else (Region.ready md ops listed).contains k && Region.free md ops listed k && lastOk md ops ops.size k && decide (k < ops.size) && (List.range ops.size).all (fun j => j == k || listed.getD j true || (lev j == 99) || (c != 2 && decide (l ≤ lev j)) || reach md ops 8 j k) && okS md ops lev r (listed.setIfInBounds k true)
def lstd : List Zk → Array Bool → Array Bool
  | [], listed => listed
  | (k, _) :: r, listed => lstd r (listed.setIfInBounds k true)
theorem wpAnyZ_seg {l : List Oper} {S : Nat → World → Prop} (hs : Region.noSelect l.toArray = true) (hA : ∀ (m n : Nat) w, m ≤ n → S n w → S m w) (m : Nat) : ∀ (ks : List Zk) (listed : Array Bool) (a : Act) (C : World → Prop), okS md l.toArray lev ks listed = true → Closed md l.toArray listed → listed.size = l.toArray.size →
    wpZ P l.toArray (fun _ _ => False) S (fun a' C' => Closed md l.toArray (lstd ks listed) → (lstd ks listed).size = l.toArray.size → wpAnyZ P md l.toArray Q (fun _ _ => False) S lev m (lstd ks listed) a' C') (opsZ l ks) a C → wpAnyZ P md l.toArray Q (fun _ _ => False) S lev (m + ks.length) listed a C
  | [], listed, a, C, hB, hcl, hsz, h => h hcl hsz
  | (k, c, lv) :: r, listed, a, C, hB, hcl, hsz, h => by
    have hk0 : ∀ (hkT : k < l.toArray.size), l.toArray[k]? = some (l.getD k default) := fun hkT => by
      have hk : k < l.length := by simpa using hkT
      have e0 : l.getD k default = l[k] := by simp [List.getD_eq_getElem?_getD, hk]
      rw [e0]; simp [hk]
    by_cases hc : c = 1
    · subst hc
      simp only [okS, beq_self_eq_true, cond_true, Bool.and_eq_true, decide_eq_true_eq, beq_iff_eq, Bool.not_eq_true', bne_iff_ne] at hB
      obtain ⟨⟨⟨⟨⟨hr, hkT⟩, hf⟩, hlv⟩, h99⟩, hB'⟩ := hB
      simp only [opsZ, wpZ, if_true] at h
      obtain ⟨hg, C', h1, h3, h⟩ := h
      have hr' : k ∈ Region.ready md l.toArray listed := by rw [hr]; simp
      show wpAnyZ P md l.toArray Q (fun _ _ => False) S lev ((m + r.length) + 1) listed a C
      unfold wpAnyZ
      rw [if_neg (by rw [hf]; simp)]
      refine ⟨by rw [hr]; simp, fun i hi => ?_⟩
      obtain rfl : i = k := by rw [hr] at hi; simpa using hi
      exact ⟨_, hk0 hkT, .inr ⟨by rw [hlv]; exact h99, hg, C', fun v w hw => by rw [hlv]; exact h1 v w hw, h3, fun v hv => wpAnyZ_seg hs hA m r (listed.setIfInBounds i true) _ (C' v) hB' (hcl.set hr') (by simpa using hsz) (h v hv)⟩⟩
    · have hcb : (c == 1) = false := by simpa using hc
      simp only [okS, hcb, cond_false, Bool.and_eq_true, decide_eq_true_eq] at hB
      obtain ⟨⟨⟨⟨⟨hr, hf⟩, hok⟩, hkT⟩, hlv⟩, hB'⟩ := hB
      simp only [opsZ, wpZ, if_neg hc] at h
      obtain ⟨v, hv, hCS, h⟩ := h
      have hr' : k ∈ Region.ready md l.toArray listed := by simpa using hr
      refine wpAnyZ_first (hk0 hkT) (Region.noSelect_spec hs) hkT hok (m + r.length) listed a C hCS ?_ (Region.free_spec (hk0 hkT) hf) hr' hcl hsz hv (wpAnyZ_seg hs hA m r _ _ C hB' (hcl.set hr') (by simpa using hsz) h)
      intro j oj hj hjk hun hno
      rw [List.all_eq_true] at hlv
      have hjl : j < l.toArray.size := (Array.getElem?_eq_some_iff.1 hj).1
      have h3 := hlv j (List.mem_range.2 hjl)
      rw [hno, hun, Bool.or_false, Bool.or_false] at h3
      simp only [Bool.or_eq_true, beq_iff_eq, Bool.and_eq_true, bne_iff_ne, decide_eq_true_eq] at h3
      rcases h3 with (h3 | h3) | h3
      · exact absurd h3 hjk
      · exact .inl h3
      · refine .inr fun w hw => ?_
        unfold SZ
        rw [if_neg h3.1]
        exact hA _ _ w h3.2 hw
end
section
variable {P : Program} {n : Fm} {Q : Exit → Act → World → Prop} {lev : Nat → Nat} {e : List (Nat × Value)} {C : World → Prop} {l : List Oper} {S : Nat → World → Prop} {listed : Array Bool}
/-- A region that draws, from a point on: in whatever order the rest is done. -/
def AZ (P : Program) (n : Fm) (l : List Oper) (Q : Exit → Act → World → Prop) (S : Nat → World → Prop) (lev : Nat → Nat) (m : Nat) (listed : Array Bool) (e : List (Nat × Value)) (C : World → Prop) : Prop :=
  Closed .any l.toArray listed → listed.size = l.toArray.size → ∀ a, Env n a e → wpAnyZ P .any l.toArray Q (fun _ _ => False) S lev m listed a C
/-- Operations in a given order, and then the rest. -/
theorem AZ.seg {M : Nat} (ks : List Zk) (m : Nat) (hM : M = m + ks.length) (hs : Region.noSelect l.toArray = true) (hA : ∀ (m n : Nat) w, m ≤ n → S n w → S m w) (hB : okS .any l.toArray lev ks listed = true) (h : wpZE P n l.toArray (fun _ _ => False) S (fun e' C' => AZ P n l Q S lev m (lstd ks listed) e' C') (opsZ l ks) e C) : AZ P n l Q S lev M listed e C := fun hcl hsz a ha => by
  rw [hM]
  exact wpAnyZ_seg hs hA m ks listed a C hB hcl hsz (wpZ_of_E (K' := fun e' C' => AZ P n l Q S lev m (lstd ks listed) e' C') (fun e' C' hk a' ha' hc hz => hk hc hz a' ha') _ e _ a ha h)
/-- The worlds' condition grows. -/
theorem AZ.strong {M : Nat} (S' : Nat → World → Prop) (hS : ∀ n w, S' n w → S n w) (h : AZ P n l Q S' lev M listed e C) : AZ P n l Q S lev M listed e C := fun hcl hsz a ha => wpAnyZ_mono hS M listed a C (h hcl hsz a ha)
theorem AZ.done (hf : (full l.toArray.size listed && (Region.ready .any l.toArray listed).isEmpty) = true) (h : ∀ W, C W → ∀ a, Env n a e → Q .normal a W) : AZ P n l Q S lev 0 listed e C := fun hcl hsz a ha => by
  simp only [Bool.and_eq_true] at hf
  exact ⟨hf.1, fun w hw => wpAny_done (by simpa using hf.2) (h w hw a ha) 0⟩
theorem turn_of_E {k lk : Nat} {m : Nat} {o : Oper} (ho : l.toArray[k]? = some o) (hr : k ∈ Region.ready .any l.toArray listed) (hlv : lev k = lk) (h99 : lk ≠ 99) (hcl : Closed .any l.toArray listed) (hsz : listed.size = l.toArray.size) {a : Act} (ha : Env n a e) (h : wpZE P n l.toArray (fun _ _ => False) S (fun e' C' => AZ P n l Q S lev m (listed.setIfInBounds k true) e' C') [(o, 1, lk)] e C) : opZ P l.toArray (fun _ _ => False) S lev k (fun a' C' => wpAnyZ P .any l.toArray Q (fun _ _ => False) S lev m (listed.setIfInBounds k true) a' C') a C := by
  simp only [wpZE, if_true] at h
  obtain ⟨hw, hd, C', h1, h3, h⟩ := h
  exact ⟨o, ho, .inr ⟨by rw [hlv]; exact h99, wantE_spec ha hw, C', fun v w hw => by rw [hlv]; exact h1 v w hw, fun w hw => h3 w hw a ha, fun v hv => h v hv (hcl.set hr) (by simpa using hsz) _ (ha.ins o.dst v hd)⟩⟩
/-- Two that turn the world are ready: whichever is first. -/
theorem AZ.two {M : Nat} (m k1 l1 k2 l2 : Nat) (hM : M = m + 1) (hB : (Region.ready .any l.toArray listed == [k1, k2] && !full l.toArray.size listed && decide (k1 < l.length) && decide (k2 < l.length) && lev k1 == l1 && lev k2 == l2 && l1 != 99 && l2 != 99) = true)
    (h1 : wpZE P n l.toArray (fun _ _ => False) S (fun e' C' => AZ P n l Q S lev m (listed.setIfInBounds k1 true) e' C') [(l.getD k1 default, 1, l1)] e C)
    (h2 : wpZE P n l.toArray (fun _ _ => False) S (fun e' C' => AZ P n l Q S lev m (listed.setIfInBounds k2 true) e' C') [(l.getD k2 default, 1, l2)] e C) : AZ P n l Q S lev M listed e C := fun hcl hsz a ha => by
  simp only [Bool.and_eq_true, beq_iff_eq, Bool.not_eq_true', decide_eq_true_eq, bne_iff_ne] at hB
  obtain ⟨⟨⟨⟨⟨⟨⟨hr, hf⟩, g1⟩, g2⟩, v1⟩, v2⟩, n1⟩, n2⟩ := hB
  have hk0 : ∀ k, k < l.length → l.toArray[k]? = some (l.getD k default) := fun k hk => by
    have e0 : l.getD k default = l[k] := by simp [List.getD_eq_getElem?_getD, hk]
    rw [e0]; simp [hk]
  rw [hM]
  unfold wpAnyZ
  rw [if_neg (by rw [hf]; simp)]
  refine ⟨by rw [hr]; simp, fun i hi => ?_⟩
  have hi' : i = k1 ∨ i = k2 := by rw [hr] at hi; simpa using hi
  rcases hi' with rfl | rfl
  · exact turn_of_E (hk0 _ g1) hi v1 n1 hcl hsz ha h1
  · exact turn_of_E (hk0 _ g2) hi v2 n2 hcl hsz ha h2
theorem EW.az {id : Nat} {w : World} (S : Nat → World → Prop) (lev : Nat → Nat) (C0 : World → Prop) (M : Nat) (hm : P.follows .mixedOrders = true) (hM : l.length = M) (hC : C0 { w with drawn := w.drawn + 1 }) (h : AZ P n l Q S lev M (none_ M) e C0) : EW P n (Code.region id l.toArray true) Q e w := fun a ha => by
  refine wp_region_any hm ?_
  rw [show l.toArray.size = M by simpa using hM]
  exact wpAny_of_Z (Rp := fun _ _ => False) (S := S) (lev := lev) (G := fun _ => True) (fun _ _ _ h => h) (fun _ _ _ _ h => h.elim) _ _ _ C0 trivial (h (closed_none _) (by simp [none_, hM]) a ha) _ hC
end
end Go.Proofs.YtmbgeojjklboeaaGreatDoor
