import Derived.Test.YtplfelfmkgjijaaNr
set_option linter.unusedVariables false
set_option linter.unusedSimpArgs false
namespace Go.Proofs.Ytplfelfmkgjijaa
open Go.RowKit

set_option maxRecDepth 100000 in
set_option maxHeartbeats 4000000 in
theorem rsend_any {w : World} {q : Nat} {nodes most num : Int} {v : Value} {R : List Fl} (h : Rn w q nodes most num v R) (fr tn : Int) (vb : Value) (bs : List UInt8) (hv : Has w vb bs) (hl : bs.length ≤ 140737488355328) (hnum : 0 ≤ num ∧ num < 9000000000000000000) (hRl : R.length ≤ 100000) : Calls Try.prog 27 #[.pointer (some ⟨q, 0, none⟩), .int .i64 fr, .int .i64 tn, vb] w fun e w' =>
    (¬ (isN nodes fr ∧ isN nodes tn) ∧ e = .returned (.tuple #[.int .i64 0, .int .i64 240]) ∧ Below w.heap.size w w') ∨
    ((isN nodes fr ∧ isN nodes tn) ∧ most ≤ R.length ∧ e = .returned (.tuple #[.int .i64 0, .int .i64 231]) ∧ Below w.heap.size w w') ∨
    ((isN nodes fr ∧ isN nodes tn) ∧ ¬ most ≤ R.length ∧ e = .returned (.tuple #[.int .i64 num, .int .i64 0]) ∧ ∃ v2 v', Rn w' q nodes most (num + 1) v2 (R ++ [⟨num, fr, tn, v', bs⟩]) ∧ Fresh w v' ∧ Nw w v v2 ∧ Fx (fun k => k = q ∨ v.ownBlock = some k) w w') := by
  rcases (show fr < 1 ∨ (¬ fr < 1 ∧ nodes < fr) ∨ (¬ fr < 1 ∧ ¬ nodes < fr ∧ tn < 1) ∨ (¬ fr < 1 ∧ ¬ nodes < fr ∧ ¬ tn < 1 ∧ nodes < tn) ∨ (¬ fr < 1 ∧ ¬ nodes < fr ∧ ¬ tn < 1 ∧ ¬ nodes < tn) by omega) with g1 | ⟨g1, g2⟩ | ⟨g1, g2, g3⟩ | ⟨g1, g2, g3, g4⟩ | ⟨g1, g2, g3, g4⟩
  · refine calls_of_args [.pointer (some ⟨q, 0, none⟩), .int .i64 fr, .int .i64 tn, vb] Try.func27 rfl 48 Try.ntmps27 (by show 4 ≤ 48; decide) ?_
    refine EW.seq ?_
    refine EW.region ?_
    first | refine WL.assign rfl rfl rfl ?_
    first | refine WL.assign rfl rfl rfl ?_
    refine WL.done ?_
    refine EW.on ?_
    refine EW.seq ?_
    refine EW.seq ?_
    refine EW.region ?_
    first | refine WL.move rfl rfl rfl ?_
    refine WL.bin rfl rfl rfl rfl (int_lt_t (by omega) _ _ _) ?_
    first | refine WL.move rfl rfl rfl ?_
    refine WL.skip _ rfl rfl rfl ?_
    refine WL.skip _ rfl rfl rfl ?_
    refine WL.skip _ rfl rfl rfl ?_
    refine WL.skip _ rfl rfl rfl ?_
    refine WL.skip _ rfl rfl rfl ?_
    refine WL.skip _ rfl rfl rfl ?_
    first | refine WL.pick rfl rfl rfl rfl ?_
    first | refine WL.move rfl rfl rfl ?_
    refine WL.skip _ rfl rfl rfl ?_
    refine WL.skip _ rfl rfl rfl ?_
    first | refine WL.pick rfl rfl rfl rfl ?_
    first | refine WL.move rfl rfl rfl ?_
    refine WL.skip _ rfl rfl rfl ?_
    refine WL.skip _ rfl rfl rfl ?_
    refine WL.skip _ rfl rfl rfl ?_
    refine WL.skip _ rfl rfl rfl ?_
    refine WL.skip _ rfl rfl rfl ?_
    refine WL.skip _ rfl rfl rfl ?_
    first | refine WL.pick rfl rfl rfl rfl ?_
    refine WL.done ?_
    refine EW.on ?_
    refine EW.cond_t rfl ?_
    refine EW.seq ?_
    refine EW.region ?_
    first | refine WL.assign rfl rfl rfl ?_
    first | refine WL.assign rfl rfl rfl ?_
    refine WL.done ?_
    refine EW.on ?_
    refine EW.ret ?_
    refine pr_then ?_
    exact EW.returns2 Try.results27 rfl rfl (.inl ⟨fun e => (by unfold isN at e; omega), rfl, Below.refl _ _⟩)
  · refine calls_of_args [.pointer (some ⟨q, 0, none⟩), .int .i64 fr, .int .i64 tn, vb] Try.func27 rfl 48 Try.ntmps27 (by show 4 ≤ 48; decide) ?_
    refine EW.seq ?_
    refine EW.region ?_
    first | refine WL.assign rfl rfl rfl ?_
    first | refine WL.assign rfl rfl rfl ?_
    refine WL.done ?_
    refine EW.on ?_
    refine EW.seq ?_
    refine EW.seq ?_
    refine EW.region ?_
    first | refine WL.move rfl rfl rfl ?_
    refine WL.bin rfl rfl rfl rfl (int_lt_f (by omega) _ _ _) ?_
    first | refine WL.move rfl rfl rfl ?_
    first | refine WL.move rfl rfl rfl ?_ | refine WL.skip _ rfl rfl rfl ?_
    first | refine WL.move rfl rfl rfl ?_ | refine WL.skip _ rfl rfl rfl ?_
    first | refine WL.nilc rfl rfl rfl ?_ | refine WL.skip _ rfl rfl rfl ?_
    refine WL.field rfl rfl rfl (g67_0 q _) ?_
    refine WL.load rfl rfl rfl (ldI h.bl rfl) ?_
    refine WL.bin rfl rfl rfl rfl (int_gt_t (by omega) _ _ _) ?_
    first | refine WL.pick rfl rfl rfl rfl ?_
    first | refine WL.move rfl rfl rfl ?_
    refine WL.skip _ rfl rfl rfl ?_
    refine WL.skip _ rfl rfl rfl ?_
    first | refine WL.pick rfl rfl rfl rfl ?_
    first | refine WL.move rfl rfl rfl ?_
    refine WL.skip _ rfl rfl rfl ?_
    refine WL.skip _ rfl rfl rfl ?_
    refine WL.skip _ rfl rfl rfl ?_
    refine WL.skip _ rfl rfl rfl ?_
    refine WL.skip _ rfl rfl rfl ?_
    refine WL.skip _ rfl rfl rfl ?_
    first | refine WL.pick rfl rfl rfl rfl ?_
    refine WL.done ?_
    refine EW.on ?_
    refine EW.cond_t rfl ?_
    refine EW.seq ?_
    refine EW.region ?_
    first | refine WL.assign rfl rfl rfl ?_
    first | refine WL.assign rfl rfl rfl ?_
    refine WL.done ?_
    refine EW.on ?_
    refine EW.ret ?_
    refine pr_then ?_
    exact EW.returns2 Try.results27 rfl rfl (.inl ⟨fun e => (by unfold isN at e; omega), rfl, Below.refl _ _⟩)
  · refine calls_of_args [.pointer (some ⟨q, 0, none⟩), .int .i64 fr, .int .i64 tn, vb] Try.func27 rfl 48 Try.ntmps27 (by show 4 ≤ 48; decide) ?_
    refine EW.seq ?_
    refine EW.region ?_
    first | refine WL.assign rfl rfl rfl ?_
    first | refine WL.assign rfl rfl rfl ?_
    refine WL.done ?_
    refine EW.on ?_
    refine EW.seq ?_
    refine EW.seq ?_
    refine EW.region ?_
    first | refine WL.move rfl rfl rfl ?_
    refine WL.bin rfl rfl rfl rfl (int_lt_f (by omega) _ _ _) ?_
    first | refine WL.move rfl rfl rfl ?_
    first | refine WL.move rfl rfl rfl ?_ | refine WL.skip _ rfl rfl rfl ?_
    first | refine WL.move rfl rfl rfl ?_ | refine WL.skip _ rfl rfl rfl ?_
    first | refine WL.nilc rfl rfl rfl ?_ | refine WL.skip _ rfl rfl rfl ?_
    refine WL.field rfl rfl rfl (g67_0 q _) ?_
    refine WL.load rfl rfl rfl (ldI h.bl rfl) ?_
    refine WL.bin rfl rfl rfl rfl (int_gt_f (by omega) _ _ _) ?_
    first | refine WL.pick rfl rfl rfl rfl ?_
    first | refine WL.move rfl rfl rfl ?_
    first | refine WL.move rfl rfl rfl ?_ | refine WL.skip _ rfl rfl rfl ?_
    refine WL.bin rfl rfl rfl rfl (int_lt_t (by omega) _ _ _) ?_
    first | refine WL.pick rfl rfl rfl rfl ?_
    first | refine WL.move rfl rfl rfl ?_
    refine WL.skip _ rfl rfl rfl ?_
    refine WL.skip _ rfl rfl rfl ?_
    refine WL.skip _ rfl rfl rfl ?_
    refine WL.skip _ rfl rfl rfl ?_
    refine WL.skip _ rfl rfl rfl ?_
    refine WL.skip _ rfl rfl rfl ?_
    first | refine WL.pick rfl rfl rfl rfl ?_
    refine WL.done ?_
    refine EW.on ?_
    refine EW.cond_t rfl ?_
    refine EW.seq ?_
    refine EW.region ?_
    first | refine WL.assign rfl rfl rfl ?_
    first | refine WL.assign rfl rfl rfl ?_
    refine WL.done ?_
    refine EW.on ?_
    refine EW.ret ?_
    refine pr_then ?_
    exact EW.returns2 Try.results27 rfl rfl (.inl ⟨fun e => (by unfold isN at e; omega), rfl, Below.refl _ _⟩)
  · refine calls_of_args [.pointer (some ⟨q, 0, none⟩), .int .i64 fr, .int .i64 tn, vb] Try.func27 rfl 48 Try.ntmps27 (by show 4 ≤ 48; decide) ?_
    refine EW.seq ?_
    refine EW.region ?_
    first | refine WL.assign rfl rfl rfl ?_
    first | refine WL.assign rfl rfl rfl ?_
    refine WL.done ?_
    refine EW.on ?_
    refine EW.seq ?_
    refine EW.seq ?_
    refine EW.region ?_
    first | refine WL.move rfl rfl rfl ?_
    refine WL.bin rfl rfl rfl rfl (int_lt_f (by omega) _ _ _) ?_
    first | refine WL.move rfl rfl rfl ?_
    first | refine WL.move rfl rfl rfl ?_ | refine WL.skip _ rfl rfl rfl ?_
    first | refine WL.move rfl rfl rfl ?_ | refine WL.skip _ rfl rfl rfl ?_
    first | refine WL.nilc rfl rfl rfl ?_ | refine WL.skip _ rfl rfl rfl ?_
    refine WL.field rfl rfl rfl (g67_0 q _) ?_
    refine WL.load rfl rfl rfl (ldI h.bl rfl) ?_
    refine WL.bin rfl rfl rfl rfl (int_gt_f (by omega) _ _ _) ?_
    first | refine WL.pick rfl rfl rfl rfl ?_
    first | refine WL.move rfl rfl rfl ?_
    first | refine WL.move rfl rfl rfl ?_ | refine WL.skip _ rfl rfl rfl ?_
    refine WL.bin rfl rfl rfl rfl (int_lt_f (by omega) _ _ _) ?_
    first | refine WL.pick rfl rfl rfl rfl ?_
    first | refine WL.move rfl rfl rfl ?_
    first | refine WL.move rfl rfl rfl ?_ | refine WL.skip _ rfl rfl rfl ?_
    first | refine WL.move rfl rfl rfl ?_ | refine WL.skip _ rfl rfl rfl ?_
    first | refine WL.nilc rfl rfl rfl ?_ | refine WL.skip _ rfl rfl rfl ?_
    refine WL.field rfl rfl rfl (g67_0 q _) ?_
    refine WL.load rfl rfl rfl (ldI h.bl rfl) ?_
    refine WL.bin rfl rfl rfl rfl (int_gt_t (by omega) _ _ _) ?_
    first | refine WL.pick rfl rfl rfl rfl ?_
    refine WL.done ?_
    refine EW.on ?_
    refine EW.cond_t rfl ?_
    refine EW.seq ?_
    refine EW.region ?_
    first | refine WL.assign rfl rfl rfl ?_
    first | refine WL.assign rfl rfl rfl ?_
    refine WL.done ?_
    refine EW.on ?_
    refine EW.ret ?_
    refine pr_then ?_
    exact EW.returns2 Try.results27 rfl rfl (.inl ⟨fun e => (by unfold isN at e; omega), rfl, Below.refl _ _⟩)
  · refine calls_of_args [.pointer (some ⟨q, 0, none⟩), .int .i64 fr, .int .i64 tn, vb] Try.func27 rfl 48 Try.ntmps27 (by show 4 ≤ 48; decide) ?_
    refine EW.seq ?_
    refine EW.region ?_
    first | refine WL.assign rfl rfl rfl ?_
    first | refine WL.assign rfl rfl rfl ?_
    refine WL.done ?_
    refine EW.on ?_
    refine EW.seq ?_
    refine EW.seq ?_
    refine EW.region ?_
    first | refine WL.move rfl rfl rfl ?_
    refine WL.bin rfl rfl rfl rfl (int_lt_f (by omega) _ _ _) ?_
    first | refine WL.move rfl rfl rfl ?_
    first | refine WL.move rfl rfl rfl ?_ | refine WL.skip _ rfl rfl rfl ?_
    first | refine WL.move rfl rfl rfl ?_ | refine WL.skip _ rfl rfl rfl ?_
    first | refine WL.nilc rfl rfl rfl ?_ | refine WL.skip _ rfl rfl rfl ?_
    refine WL.field rfl rfl rfl (g67_0 q _) ?_
    refine WL.load rfl rfl rfl (ldI h.bl rfl) ?_
    refine WL.bin rfl rfl rfl rfl (int_gt_f (by omega) _ _ _) ?_
    first | refine WL.pick rfl rfl rfl rfl ?_
    first | refine WL.move rfl rfl rfl ?_
    first | refine WL.move rfl rfl rfl ?_ | refine WL.skip _ rfl rfl rfl ?_
    refine WL.bin rfl rfl rfl rfl (int_lt_f (by omega) _ _ _) ?_
    first | refine WL.pick rfl rfl rfl rfl ?_
    first | refine WL.move rfl rfl rfl ?_
    first | refine WL.move rfl rfl rfl ?_ | refine WL.skip _ rfl rfl rfl ?_
    first | refine WL.move rfl rfl rfl ?_ | refine WL.skip _ rfl rfl rfl ?_
    first | refine WL.nilc rfl rfl rfl ?_ | refine WL.skip _ rfl rfl rfl ?_
    refine WL.field rfl rfl rfl (g67_0 q _) ?_
    refine WL.load rfl rfl rfl (ldI h.bl rfl) ?_
    refine WL.bin rfl rfl rfl rfl (int_gt_f (by omega) _ _ _) ?_
    first | refine WL.pick rfl rfl rfl rfl ?_
    refine WL.done ?_
    refine EW.on ?_
    refine EW.cond_f rfl ?_
    refine EW.skip ?_
    refine EW.on ?_
    refine EW.seq ?_
    refine EW.seq ?_
    have hok : isN nodes fr ∧ isN nodes tn := ⟨⟨by omega, by omega⟩, ⟨by omega, by omega⟩⟩
    refine EW.ordB [(0, 0, 0), (1, 0, 0), (2, 0, 0), (3, 0, 1), (4, 0, 0), (5, 0, 0), (6, 0, 0), (7, 0, 0), (8, 0, 1), (9, 0, 0)] (by kernel_rfl) rfl (by kernel_rfl) ?_
    simp only [opsZ, List.getD_cons_zero, List.getD_cons_succ]
    first | refine ZE.move rfl rfl rfl rfl sz0 ?_
    first | refine ZE.nilc rfl rfl rfl rfl sz0 ?_
    refine ZE.field rfl rfl rfl rfl sz0 (fun W => g67_2 q W) ?_
    refine ZE.load rfl rfl rfl rfl sz1 (fun W hW => ldR (h.on (sb_of hW)).bl rfl) ?_
    refine ZE.len rfl rfl rfl rfl sz0 (fun W => h.fo.fs.len W _) ?_
    first | refine ZE.move rfl rfl rfl rfl sz0 ?_
    first | refine ZE.nilc rfl rfl rfl rfl sz0 ?_
    refine ZE.field rfl rfl rfl rfl sz0 (fun W => g67_1 q W) ?_
    refine ZE.load rfl rfl rfl rfl sz1 (fun W hW => ldI (h.on (sb_of hW)).bl rfl) ?_
    refine ZE.bin rfl rfl rfl rfl rfl sz0 (fun W => int_ge_d _ _ W _ _) ?_
    rintro W hW
    refine EW.on ?_
    refine EW.cond_d rfl (fun h41 => ?_) (fun h41 => ?_)
    · refine EW.seq ?_
      refine EW.region ?_
      first | refine WL.assign rfl rfl rfl ?_
      first | refine WL.assign rfl rfl rfl ?_
      refine WL.done ?_
      refine EW.on ?_
      refine EW.ret ?_
      refine pr_then ?_
      exact EW.returns2 Try.results27 rfl rfl (.inr (.inl ⟨hok, h41, rfl, hW⟩))
    · refine EW.skip ?_
      refine EW.on ?_
      refine EW.seq ?_
      refine EW.region ?_
      first | refine WL.move rfl rfl rfl ?_
      first | refine WL.move rfl rfl rfl ?_
      first | refine WL.move rfl rfl rfl ?_
      first | refine WL.move rfl rfl rfl ?_
      refine WL.buildN [(1, .int .i64 fr), (2, .int .i64 tn), (3, vb)] rfl rfl rfl (b36_3v fr tn vb bs hv.sl _) ?_
      refine WL.call [.pointer (some ⟨q, 0, none⟩), Fl.g ⟨0, fr, tn, vb, bs⟩] enter35 rfl rfl rfl (radd_any (h.on hW) ⟨0, fr, tn, vb, bs⟩ (hv.below hW) hl hnum hRl) ?_
      rintro y5 w5 ⟨rfl, v2, v', h5, fr5, nw5, f5⟩
      refine ⟨_, rfl, ?_⟩
      have fr5' : Fresh w v' := fun k hk => by have := fr5 k hk; have := hW.size; omega
      have nw5' : Nw w v v2 := fun k hk => by
        rcases nw5 k hk with e | e
        · exact .inl e
        · exact .inr (by have := hW.size; omega)
      first | refine WL.assign rfl rfl rfl ?_
      first | refine WL.assign rfl rfl rfl ?_
      refine WL.done ?_
      refine EW.on ?_
      refine EW.ret ?_
      exact EW.returns2 Try.results27 rfl rfl (.inr (.inr ⟨hok, h41, rfl, v2, v', h5, fr5', nw5', (Fx.of_below (S := fun k => k = q ∨ v.ownBlock = some k) hW).and f5⟩))
/-- Where a number stands in the row, or not. -/
theorem find_cases (R : List Fl) (k : Int) : (∀ y ∈ R, y.n ≠ k) ∨ ∃ (i : Nat) (y : Fl), R[i]? = some y ∧ y.n = k := by
  by_cases h : ∀ y ∈ R, y.n ≠ k
  · exact .inl h
  · right
    refine Classical.byContradiction fun hn => h fun y hy e => ?_
    obtain ⟨i, hi⟩ := List.mem_iff_getElem?.1 hy
    exact hn ⟨i, y, hi, e⟩
theorem at_uniq {R : List Fl} (hnd : (R.map fun x => x.n).Nodup) {i j : Nat} {x y : Fl} (hx : R[i]? = some x) (hy : R[j]? = some y) (e : x.n = y.n) : i = j := nodup_at hnd hx hy e
theorem rfind_none {w : World} {q : Nat} {nodes most num : Int} {v : Value} {R : List Fl} (h : Rn w q nodes most num v R) (hRl : R.length ≤ 100000) {k : Int} (hno : ∀ y ∈ R, y.n ≠ k) : Calls Try.prog 36 #[.pointer (some ⟨q, 0, none⟩), .int .i64 k] w fun e w' => e = .returned (.int .i64 (-1)) ∧ w' = w :=
  (rfind_any h hRl k).mono fun e w' ⟨h1, h2⟩ => by
    rcases h1 with ⟨h1, _⟩ | ⟨i, y, _, hy, hyk⟩
    · exact ⟨h1, h2⟩
    · exact absurd hyk (hno y (List.mem_of_getElem? hy))
theorem rfind_some {w : World} {q : Nat} {nodes most num : Int} {v : Value} {R : List Fl} (h : Rn w q nodes most num v R) (hRl : R.length ≤ 100000) (hnd : (R.map fun x => x.n).Nodup) {k : Int} {i : Nat} {y : Fl} (hy : R[i]? = some y) (hyk : y.n = k) : Calls Try.prog 36 #[.pointer (some ⟨q, 0, none⟩), .int .i64 k] w fun e w' => e = .returned (.int .i64 (i : Int)) ∧ w' = w :=
  (rfind_any h hRl k).mono fun e w' ⟨h1, h2⟩ => by
    rcases h1 with ⟨_, hno⟩ | ⟨j, z, h1, hz, hzk⟩
    · exact absurd hyk (hno y (List.mem_of_getElem? hy))
    · have e := at_uniq hnd hy hz (by rw [hyk, hzk])
      rw [e]; exact ⟨h1, h2⟩
set_option maxRecDepth 100000 in
set_option maxHeartbeats 4000000 in
theorem rcopy_any {w : World} {q : Nat} {nodes most num : Int} {v : Value} {R : List Fl} (h : Rn w q nodes most num v R) (hnd : (R.map fun x => x.n).Nodup) (k : Int) (hnum : 0 ≤ num ∧ num < 9000000000000000000) (hRl : R.length ≤ 100000) : Calls Try.prog 30 #[.pointer (some ⟨q, 0, none⟩), .int .i64 k] w fun e w' =>
    ((∀ y ∈ R, y.n ≠ k) ∧ e = .returned (.tuple #[.int .i64 0, .int .i64 230]) ∧ Below w.heap.size w w') ∨
    (∃ (i : Nat) (y : Fl), R[i]? = some y ∧ y.n = k ∧ most ≤ R.length ∧ e = .returned (.tuple #[.int .i64 0, .int .i64 231]) ∧ Below w.heap.size w w') ∨
    (∃ (i : Nat) (y : Fl), R[i]? = some y ∧ y.n = k ∧ ¬ most ≤ R.length ∧ e = .returned (.tuple #[.int .i64 num, .int .i64 0]) ∧ ∃ v2 v', Rn w' q nodes most (num + 1) v2 (R ++ [⟨num, y.f, y.t, v', y.b⟩]) ∧ Fresh w v' ∧ Nw w v v2 ∧ Fx (fun k => k = q ∨ v.ownBlock = some k) w w') := by
  rcases find_cases R k with hno | ⟨i, y, hy, hyk⟩
  · have hfd := rfind_none h hRl hno
    refine calls_of_args [.pointer (some ⟨q, 0, none⟩), .int .i64 k] Try.func30 rfl 31 Try.ntmps30 (by show 2 ≤ 31; decide) ?_
    refine EW.seq ?_
    refine EW.region ?_
    first | refine WL.assign rfl rfl rfl ?_
    first | refine WL.assign rfl rfl rfl ?_
    refine WL.done ?_
    refine EW.on ?_
    refine EW.seq ?_
    refine EW.region ?_
    first | refine WL.move rfl rfl rfl ?_
    first | refine WL.move rfl rfl rfl ?_
    refine WL.call [.pointer (some ⟨q, 0, none⟩), .int .i64 k] enter36 rfl rfl rfl (hfd) ?_
    rintro x1 w1 ⟨rfl, hw1⟩
    refine ⟨_, rfl, ?_⟩
    rw [hw1]
    first | refine WL.assign rfl rfl rfl ?_
    refine WL.done ?_
    refine EW.on ?_
    refine EW.seq ?_
    refine EW.seq ?_
    refine EW.region ?_
    first | refine WL.move rfl rfl rfl ?_
    refine WL.bin rfl rfl rfl rfl (int_lt_t (by omega) _ _ _) ?_
    refine WL.done ?_
    refine EW.on ?_
    refine EW.cond_t rfl ?_
    refine EW.seq ?_
    refine EW.region ?_
    first | refine WL.assign rfl rfl rfl ?_
    first | refine WL.assign rfl rfl rfl ?_
    refine WL.done ?_
    refine EW.on ?_
    refine EW.ret ?_
    refine pr_then ?_
    exact EW.returns2 Try.results30 rfl rfl (.inl ⟨hno, rfl, Below.refl _ _⟩)
  · have hfd := rfind_some h hRl hnd hy hyk
    have hil : i < R.length := (List.getElem?_eq_some_iff.1 hy).1
    obtain ⟨ad, ix, lx⟩ := h.fo.fs.get hy
    refine calls_of_args [.pointer (some ⟨q, 0, none⟩), .int .i64 k] Try.func30 rfl 31 Try.ntmps30 (by show 2 ≤ 31; decide) ?_
    refine EW.seq ?_
    refine EW.region ?_
    first | refine WL.assign rfl rfl rfl ?_
    first | refine WL.assign rfl rfl rfl ?_
    refine WL.done ?_
    refine EW.on ?_
    refine EW.seq ?_
    refine EW.region ?_
    first | refine WL.move rfl rfl rfl ?_
    first | refine WL.move rfl rfl rfl ?_
    refine WL.call [.pointer (some ⟨q, 0, none⟩), .int .i64 k] enter36 rfl rfl rfl (hfd) ?_
    rintro x1 w1 ⟨rfl, hw1⟩
    refine ⟨_, rfl, ?_⟩
    rw [hw1]
    first | refine WL.assign rfl rfl rfl ?_
    refine WL.done ?_
    refine EW.on ?_
    refine EW.seq ?_
    refine EW.seq ?_
    refine EW.region ?_
    first | refine WL.move rfl rfl rfl ?_
    refine WL.bin rfl rfl rfl rfl (int_lt_f (by omega) _ _ _) ?_
    refine WL.done ?_
    refine EW.on ?_
    refine EW.cond_f rfl ?_
    refine EW.skip ?_
    refine EW.on ?_
    refine EW.seq ?_
    refine EW.seq ?_
    refine EW.ordB [(0, 0, 0), (1, 0, 0), (2, 0, 0), (3, 0, 1), (4, 0, 0), (5, 0, 0), (6, 0, 0), (7, 0, 0), (8, 0, 1), (9, 0, 0)] (by kernel_rfl) rfl (by kernel_rfl) ?_
    simp only [opsZ, List.getD_cons_zero, List.getD_cons_succ]
    first | refine ZE.move rfl rfl rfl rfl sz0 ?_
    first | refine ZE.nilc rfl rfl rfl rfl sz0 ?_
    refine ZE.field rfl rfl rfl rfl sz0 (fun W => g67_2 q W) ?_
    refine ZE.load rfl rfl rfl rfl sz1 (fun W hW => ldR (h.on (sb_of hW)).bl rfl) ?_
    refine ZE.len rfl rfl rfl rfl sz0 (fun W => h.fo.fs.len W _) ?_
    first | refine ZE.move rfl rfl rfl rfl sz0 ?_
    first | refine ZE.nilc rfl rfl rfl rfl sz0 ?_
    refine ZE.field rfl rfl rfl rfl sz0 (fun W => g67_1 q W) ?_
    refine ZE.load rfl rfl rfl rfl sz1 (fun W hW => ldI (h.on (sb_of hW)).bl rfl) ?_
    refine ZE.bin rfl rfl rfl rfl rfl sz0 (fun W => int_ge_d _ _ W _ _) ?_
    rintro W hW
    refine EW.on ?_
    refine EW.cond_d rfl (fun h21 => ?_) (fun h21 => ?_)
    · refine EW.seq ?_
      refine EW.region ?_
      first | refine WL.assign rfl rfl rfl ?_
      first | refine WL.assign rfl rfl rfl ?_
      refine WL.done ?_
      refine EW.on ?_
      refine EW.ret ?_
      refine pr_then ?_
      exact EW.returns2 Try.results30 rfl rfl (.inr (.inl ⟨i, y, hy, hyk, h21, rfl, hW⟩))
    · refine EW.skip ?_
      refine EW.on ?_
      refine EW.seq ?_
      refine EW.region ?_
      first | refine WL.move rfl rfl rfl ?_
      first | refine WL.move rfl rfl rfl ?_
      first | refine WL.nilc rfl rfl rfl ?_
      refine WL.field rfl rfl rfl (g67_2 q _) ?_
      refine WL.load rfl rfl rfl (ldR (h.on hW).bl rfl) ?_
      first | refine WL.move rfl rfl rfl ?_
      refine WL.index rfl rfl rfl rfl (ix _) ?_
      refine WL.load rfl rfl rfl (lx _ (h.on hW).fo.fs).1 ?_
      refine WL.call [.pointer (some ⟨q, 0, none⟩), y.g] enter35 rfl rfl rfl (radd_any (h.on hW) y ((h.hs y (List.mem_of_getElem? hy)).below hW) (h.lb y (List.mem_of_getElem? hy)) hnum hRl) ?_
      rintro y5 w5 ⟨rfl, v2, v', h5, fr5, nw5, f5⟩
      refine ⟨_, rfl, ?_⟩
      have fr5' : Fresh w v' := fun k hk => by have := fr5 k hk; have := hW.size; omega
      have nw5' : Nw w v v2 := fun k hk => by
        rcases nw5 k hk with e | e
        · exact .inl e
        · exact .inr (by have := hW.size; omega)
      first | refine WL.assign rfl rfl rfl ?_
      first | refine WL.assign rfl rfl rfl ?_
      refine WL.done ?_
      refine EW.on ?_
      refine EW.ret ?_
      exact EW.returns2 Try.results30 rfl rfl (.inr (.inr ⟨i, y, hy, hyk, h21, rfl, v2, v', h5, fr5', nw5', (Fx.of_below (S := fun k => k = q ∨ v.ownBlock = some k) hW).and f5⟩))
set_option maxRecDepth 100000 in
set_option maxHeartbeats 4000000 in
theorem rdrop_any {w : World} {q : Nat} {nodes most num : Int} {v : Value} {R : List Fl} (h : Rn w q nodes most num v R) (hnd : (R.map fun x => x.n).Nodup) (k : Int) (hRl : R.length ≤ 100000) : Calls Try.prog 29 #[.pointer (some ⟨q, 0, none⟩), .int .i64 k] w fun e w' =>
    ((∀ y ∈ R, y.n ≠ k) ∧ e = .returned (.int .i64 230) ∧ Below w.heap.size w w') ∨
    (∃ (i : Nat) (y : Fl), R[i]? = some y ∧ y.n = k ∧ e = .returned (.int .i64 0) ∧ ∃ v2, Rn w' q nodes most num v2 (R.take i ++ R.drop (i + 1)) ∧ (∀ j, v2.ownBlock = some j → w.heap.size ≤ j) ∧ Fx (fun j => j = q) w w') := by
  rcases find_cases R k with hno | ⟨i, y, hy, hyk⟩
  · have hfd := rfind_none h hRl hno
    refine calls_of_args [.pointer (some ⟨q, 0, none⟩), .int .i64 k] Try.func29 rfl 14 Try.ntmps29 (by show 2 ≤ 14; decide) ?_
    refine EW.seq ?_
    refine EW.region ?_
    first | refine WL.assign rfl rfl rfl ?_
    refine WL.done ?_
    refine EW.on ?_
    refine EW.seq ?_
    refine EW.region ?_
    first | refine WL.move rfl rfl rfl ?_
    first | refine WL.move rfl rfl rfl ?_
    refine WL.call [.pointer (some ⟨q, 0, none⟩), .int .i64 k] enter36 rfl rfl rfl (hfd) ?_
    rintro x1 w1 ⟨rfl, hw1⟩
    refine ⟨_, rfl, ?_⟩
    rw [hw1]
    first | refine WL.assign rfl rfl rfl ?_
    refine WL.done ?_
    refine EW.on ?_
    refine EW.seq ?_
    refine EW.seq ?_
    refine EW.region ?_
    first | refine WL.move rfl rfl rfl ?_
    refine WL.bin rfl rfl rfl rfl (int_lt_t (by omega) _ _ _) ?_
    refine WL.done ?_
    refine EW.on ?_
    refine EW.cond_t rfl ?_
    refine EW.seq ?_
    refine EW.region ?_
    first | refine WL.assign rfl rfl rfl ?_
    refine WL.done ?_
    refine EW.on ?_
    refine EW.ret ?_
    refine pr_then ?_
    exact EW.returns Try.results29 rfl (.inl ⟨hno, rfl, Below.refl _ _⟩)
  · have hfd := rfind_some h hRl hnd hy hyk
    have hil : i < R.length := (List.getElem?_eq_some_iff.1 hy).1
    refine calls_of_args [.pointer (some ⟨q, 0, none⟩), .int .i64 k] Try.func29 rfl 14 Try.ntmps29 (by show 2 ≤ 14; decide) ?_
    refine EW.seq ?_
    refine EW.region ?_
    first | refine WL.assign rfl rfl rfl ?_
    refine WL.done ?_
    refine EW.on ?_
    refine EW.seq ?_
    refine EW.region ?_
    first | refine WL.move rfl rfl rfl ?_
    first | refine WL.move rfl rfl rfl ?_
    refine WL.call [.pointer (some ⟨q, 0, none⟩), .int .i64 k] enter36 rfl rfl rfl (hfd) ?_
    rintro x1 w1 ⟨rfl, hw1⟩
    refine ⟨_, rfl, ?_⟩
    rw [hw1]
    first | refine WL.assign rfl rfl rfl ?_
    refine WL.done ?_
    refine EW.on ?_
    refine EW.seq ?_
    refine EW.seq ?_
    refine EW.region ?_
    first | refine WL.move rfl rfl rfl ?_
    refine WL.bin rfl rfl rfl rfl (int_lt_f (by omega) _ _ _) ?_
    refine WL.done ?_
    refine EW.on ?_
    refine EW.cond_f rfl ?_
    refine EW.skip ?_
    refine EW.on ?_
    refine EW.seq ?_
    refine EW.region ?_
    first | refine WL.move rfl rfl rfl ?_
    first | refine WL.move rfl rfl rfl ?_
    refine WL.call [.pointer (some ⟨q, 0, none⟩), .int .i64 (i : Int)] enter37 rfl rfl rfl (gone_any h hRl i hil) ?_
    rintro y4 w4 ⟨rfl, v2, h4, fv4, f4⟩
    refine ⟨_, rfl, ?_⟩
    refine WL.done ?_
    refine EW.on ?_
    refine EW.seq ?_
    refine EW.region ?_
    first | refine WL.assign rfl rfl rfl ?_
    refine WL.done ?_
    refine EW.on ?_
    refine EW.ret ?_
    exact EW.returns Try.results29 rfl (.inr ⟨i, y, hy, hyk, rfl, v2, h4, fv4, f4⟩)
set_option maxRecDepth 100000 in
set_option maxHeartbeats 4000000 in
theorem rdeliver_any {w : World} {q : Nat} {nodes most num : Int} {v : Value} {R : List Fl} (h : Rn w q nodes most num v R) (hnd : (R.map fun x => x.n).Nodup) (k : Int) (hRl : R.length ≤ 100000) : Calls Try.prog 28 #[.pointer (some ⟨q, 0, none⟩), .int .i64 k] w fun e w' =>
    ((∀ y ∈ R, y.n ≠ k) ∧ e = .returned (.tuple #[Fl.z.g, .int .i64 230]) ∧ Below w.heap.size w w') ∨
    (∃ (i : Nat) (y : Fl) (v' : Value), R[i]? = some y ∧ y.n = k ∧ e = .returned (.tuple #[Fl.g ⟨y.n, y.f, y.t, v', y.b⟩, .int .i64 0]) ∧ Has w' v' y.b ∧ ∃ v2, Rn w' q nodes most num v2 (R.take i ++ R.drop (i + 1)) ∧ (∀ j, v2.ownBlock = some j → w.heap.size ≤ j) ∧ Fx (fun j => j = q) w w') := by
  obtain ⟨w1, q1, r1, b1, l1, hq1, s1⟩ := new36 w
  have h1 := h.on l1
  rcases find_cases R k with hno | ⟨i, y, hy, hyk⟩
  · have hfd := rfind_none h1 hRl hno
    obtain ⟨w4, r4, b4, f4⟩ := st36 (y := Fl.z) b1 Fl.z_sh
    refine calls_of_args [.pointer (some ⟨q, 0, none⟩), .int .i64 k] Try.func28 rfl 26 Try.ntmps28 (by show 2 ≤ 26; decide) ?_
    refine EW.seq ?_
    refine EW.region ?_
    refine WL.new rfl rfl r1 ?_
    first | refine WL.assign rfl rfl rfl ?_
    refine WL.done ?_
    refine EW.on ?_
    refine EW.seq ?_
    refine EW.region ?_
    first | refine WL.move rfl rfl rfl ?_
    first | refine WL.move rfl rfl rfl ?_
    refine WL.call [.pointer (some ⟨q, 0, none⟩), .int .i64 k] enter36 rfl rfl rfl (hfd) ?_
    rintro x1 w1 ⟨rfl, hw1⟩
    refine ⟨_, rfl, ?_⟩
    rw [hw1]
    first | refine WL.assign rfl rfl rfl ?_
    refine WL.done ?_
    refine EW.on ?_
    refine EW.seq ?_
    refine EW.seq ?_
    refine EW.region ?_
    first | refine WL.move rfl rfl rfl ?_
    refine WL.bin rfl rfl rfl rfl (int_lt_t (by omega) _ _ _) ?_
    refine WL.done ?_
    refine EW.on ?_
    refine EW.cond_t rfl ?_
    refine EW.seq ?_
    refine EW.region ?_
    refine WL.buildN [] rfl rfl rfl (b36_0 _) ?_
    refine WL.store rfl rfl rfl r4 ?_
    first | refine WL.assign rfl rfl rfl ?_
    refine WL.done ?_
    refine EW.on ?_
    refine EW.ret ?_
    refine pr_then ?_
    refine EW.retFT Try.results28 rfl rfl b4 (.inl ⟨hno, rfl, l1.trans (f4.below (fun k hk e => by omega) l1.size)⟩)
  · have hfd := rfind_some h1 hRl hnd hy hyk
    have hil : i < R.length := (List.getElem?_eq_some_iff.1 hy).1
    obtain ⟨ad, ix, lx⟩ := h1.fo.fs.get hy
    refine calls_of_args [.pointer (some ⟨q, 0, none⟩), .int .i64 k] Try.func28 rfl 26 Try.ntmps28 (by show 2 ≤ 26; decide) ?_
    refine EW.seq ?_
    refine EW.region ?_
    refine WL.new rfl rfl r1 ?_
    first | refine WL.assign rfl rfl rfl ?_
    refine WL.done ?_
    refine EW.on ?_
    refine EW.seq ?_
    refine EW.region ?_
    first | refine WL.move rfl rfl rfl ?_
    first | refine WL.move rfl rfl rfl ?_
    refine WL.call [.pointer (some ⟨q, 0, none⟩), .int .i64 k] enter36 rfl rfl rfl (hfd) ?_
    rintro x1 w1 ⟨rfl, hw1⟩
    refine ⟨_, rfl, ?_⟩
    rw [hw1]
    first | refine WL.assign rfl rfl rfl ?_
    refine WL.done ?_
    refine EW.on ?_
    refine EW.seq ?_
    refine EW.seq ?_
    refine EW.region ?_
    first | refine WL.move rfl rfl rfl ?_
    refine WL.bin rfl rfl rfl rfl (int_lt_f (by omega) _ _ _) ?_
    refine WL.done ?_
    refine EW.on ?_
    refine EW.cond_f rfl ?_
    refine EW.skip ?_
    refine EW.on ?_
    refine EW.seq ?_
    refine EW.region ?_
    first | refine WL.move rfl rfl rfl ?_
    first | refine WL.nilc rfl rfl rfl ?_
    refine WL.field rfl rfl rfl (g67_2 q _) ?_
    refine WL.load rfl rfl rfl (ldR h1.bl rfl) ?_
    first | refine WL.move rfl rfl rfl ?_
    refine WL.index rfl rfl rfl rfl (ix _) ?_
    refine WL.load rfl rfl rfl (lx _ h1.fo.fs).1 ?_
    refine WL.call [y.g] enter31 rfl rfl rfl (twin_any y _ (h1.hs y (List.mem_of_getElem? hy)) (h1.lb y (List.mem_of_getElem? hy))) ?_
    rintro y4 w4 ⟨v', rfl, own4, l4⟩
    refine ⟨_, rfl, ?_⟩
    obtain ⟨q7, w4a, w5, ra, rs, b7, l5, hq7⟩ := newF w4 ⟨y.n, y.f, y.t, v', y.b⟩ (sh_of own4.has)
    have h5 := (h1.on l4).on l5
    refine WL.new rfl rfl ra ?_
    refine WL.store rfl rfl rfl rs ?_
    refine WL.done ?_
    refine EW.on ?_
    refine EW.seq ?_
    refine EW.region ?_
    first | refine WL.move rfl rfl rfl ?_
    first | refine WL.move rfl rfl rfl ?_
    refine WL.call [.pointer (some ⟨q, 0, none⟩), .int .i64 (i : Int)] enter37 rfl rfl rfl (gone_any h5 hRl i hil) ?_
    rintro y6 w6 ⟨rfl, v2, h6, fv6, f6⟩
    refine ⟨_, rfl, ?_⟩
    have s4 := l4.size
    have s5 := l5.size
    have hqq : q < w.heap.size := h.bl.lt
    have b76 : Blk w6 q7 (Fl.cs ⟨y.n, y.f, y.t, v', y.b⟩) 36 := b7.fx f6 (fun e => by have e' : q7 = q := e; omega)
    have bz6 : Blk w6 q1 Fl.z.cs 36 := ((b1.on l4).on l5).fx f6 (fun e => by have e' : q1 = q := e; omega)
    have own6 := (own4.below l5).fx f6 (fun k hk e => by have e' : k = q := e; have := own4.ownBlock k hk; omega)
    obtain ⟨w7, r7, b7', f7⟩ := st36 (y := ⟨y.n, y.f, y.t, v', y.b⟩) bz6 (sh_of own4.has)
    have own7 := own6.fx f7 (fun k hk e => own6.neT bz6 (by decide) (by rw [hk, e]))
    have h7 := h6.fx f7 (fun e => by have e' : q = q1 := e; omega) (fun k hk e => by have e' : k = q1 := e; have := fv6 k hk; omega) (fun x hx k hk => by
      have e' : k = q1 := hk
      rw [e']
      exact (h6.hs x hx).offB bz6 (nob_fl Fl.z_sh))
    have s6 := f6.size
    have fin : Fx (fun k => k = q) w w7 := (((Fx.of_below (bt l1 (bt l4 l5))).and f6)).trans f7 (fun i hi e => by have e' : i = q1 := e; omega)
    refine WL.done ?_
    refine EW.on ?_
    refine EW.seq ?_
    refine EW.region ?_
    refine WL.load rfl rfl rfl (ld36 b76) ?_
    refine WL.store rfl rfl rfl r7 ?_
    first | refine WL.assign rfl rfl rfl ?_
    refine WL.done ?_
    refine EW.on ?_
    refine EW.ret ?_
    refine EW.retFT Try.results28 rfl rfl b7' (.inr ⟨i, y, v', hy, hyk, rfl, own7.has, v2, h7, fun j hj => (by have := fv6 j hj; omega), fin⟩)
def rlE (q : Nat) (x : Nat × Value) : List (Nat × Value) := [(0, .pointer (some ⟨q, 0, none⟩)), (3, x.2), (4, .int .i64 (x.1 : Int))]
def rlR (w : World) (R : List Fl) (x : Nat × Value) (W : World) : Prop := x.1 ≤ R.length ∧ ∃ X, Fo W x.2 X ∧ X.map Fl.d = (R.take x.1).map Fl.d ∧ (∀ y ∈ X, Has W y.v y.b ∧ ∀ k, x.2.ownBlock = some k → Off y.v y.b k) ∧ (∀ k, x.2.ownBlock = some k → w.heap.size ≤ k) ∧ Below w.heap.size w W
set_option maxRecDepth 100000 in
set_option maxHeartbeats 4000000 in
theorem rflights_any {w : World} {q : Nat} {nodes most num : Int} {v : Value} {R : List Fl} (h : Rn w q nodes most num v R) (hRl : R.length ≤ 100000) : Calls Try.prog 19 #[.pointer (some ⟨q, 0, none⟩)] w fun e w' => ∃ u X, e = .returned u ∧ Fo w' u X ∧ X.map Fl.d = R.map Fl.d ∧ (∀ y ∈ X, Has w' y.v y.b) ∧ Below w.heap.size w w' := by
  refine calls_of_args [.pointer (some ⟨q, 0, none⟩)] Try.func19 rfl 26 Try.ntmps19 (by show 1 ≤ 26; decide) ?_
  refine EW.seq ?_
  refine EW.region ?_
  first | refine WL.assign rfl rfl rfl ?_
  refine WL.done ?_
  refine EW.on ?_
  refine EW.seq ?_
  refine EW.region ?_
  first | refine WL.assign rfl rfl rfl ?_
  refine WL.done ?_
  refine EW.on ?_
  refine EW.seq ?_
  refine EW.seq ?_
  refine EW.region ?_
  first | refine WL.assign rfl rfl rfl ?_
  refine WL.done ?_
  refine EW.on ?_
  refine EW.block ?_
  refine EW.loop (rlE q) (rlR w R) (fun x => R.length - x.1) (0, .slice none 0 0) [0, 3, 4] rfl ⟨Nat.zero_le _, [], Fo.nil _, by simp, fun y hy => (by cases hy), fun k hk => (by cases hk), Below.refl _ _⟩ ?_
  rintro x wi ⟨hxl, X, fo, hX, hXs, hvo, be⟩
  have hi := h.on be
  show EW _ _ _ _ [(0, .pointer (some ⟨q, 0, none⟩)), (3, x.2), (4, .int .i64 (x.1 : Int))] _
  refine EW.seq ?_
  refine EW.seq ?_
  refine EW.region ?_
  first | refine WL.move rfl rfl rfl ?_
  first | refine WL.move rfl rfl rfl ?_
  first | refine WL.nilc rfl rfl rfl ?_
  refine WL.field rfl rfl rfl (g67_2 q _) ?_
  refine WL.load rfl rfl rfl (ldR hi.bl rfl) ?_
  refine WL.len rfl rfl rfl (h.fo.fs.len _ _) ?_
  refine WL.bin rfl rfl rfl rfl (int_lt_d _ _ _ _ _) ?_
  refine WL.done ?_
  refine EW.on ?_
  refine EW.cond_d rfl (fun h11 => ?_) (fun h11 => ?_)
  · refine EW.skip ?_
    refine EW.on ?_
    refine EW.seq ?_
    refine EW.block ?_
    obtain ⟨y, hy⟩ : ∃ y, R[x.1]? = some y := ⟨_, List.getElem?_eq_getElem (by omega)⟩
    obtain ⟨ad, ix, lx⟩ := h.fo.fs.get hy
    refine EW.region ?_
    first | refine WL.move rfl rfl rfl ?_
    first | refine WL.move rfl rfl rfl ?_
    first | refine WL.nilc rfl rfl rfl ?_
    refine WL.field rfl rfl rfl (g67_2 q _) ?_
    refine WL.load rfl rfl rfl (ldR hi.bl rfl) ?_
    first | refine WL.move rfl rfl rfl ?_
    refine WL.index rfl rfl rfl rfl (ix _) ?_
    refine WL.load rfl rfl rfl (lx _ hi.fo.fs).1 ?_
    refine WL.call [y.g] enter31 rfl rfl rfl (twin_any y _ (hi.hs y (List.mem_of_getElem? hy)) (hi.lb y (List.mem_of_getElem? hy))) ?_
    rintro y5 w5 ⟨v', rfl, own5, l5⟩
    refine ⟨_, rfl, ?_⟩
    obtain ⟨vn, wn, c1, soN, lN, _⟩ := bslF1 ⟨y.n, y.f, y.t, v', y.b⟩ (sh_of own5.has) w5
    have l5N := bt l5 lN
    obtain ⟨v6, w6, c2, so6, f6, n6⟩ := (fo.on l5N).app soN.fs (by
      have := congrArg List.length hX
      simp only [List.length_map, List.length_take] at this
      simp only [List.length_cons, List.length_nil]; omega) 31
    have s5 := l5.size
    have sN := lN.size
    have sb := be.size
    have hall : ∀ z ∈ X ++ [(⟨y.n, y.f, y.t, v', y.b⟩ : Fl)], Has wn z.v z.b ∧ ∀ k, x.2.ownBlock = some k → Off z.v z.b k := fun z hz => by
      rcases List.mem_append.1 hz with hz | hz
      · exact ⟨(hXs z hz).1.below l5N, (hXs z hz).2⟩
      · rw [List.mem_singleton.1 hz]
        exact ⟨own5.has.below lN, fun k hk => .inr fun e => by have := own5.ownBlock k e; have := fo.ow.lt hk; omega⟩
    have R6 : rlR w R (x.1 + 1, v6) w6 := by
      refine ⟨by show x.1 + 1 ≤ R.length; omega, _, so6, ?_, fun z hz => ?_, fun k hk => ?_, ?_⟩
      · rw [List.map_append, hX, List.take_add_one, hy, List.map_append]
        rfl
      · obtain ⟨g1, g2⟩ := hall z hz
        refine ⟨g1.fxo f6 (fun k hk => g2 k hk), fun k hk => ?_⟩
        rcases n6 k hk with e | e
        · exact g2 k e
        · exact off_of g1 e
      · rcases n6 k hk with e | e
        · exact hvo k e
        · omega
      · exact be.trans ((l5N.mono sb).trans (f6.below (fun k hk e => by have := hvo k e; omega) (by omega)))
    refine WL.bslN [(0, Fl.g ⟨y.n, y.f, y.t, v', y.b⟩)] rfl rfl rfl c1 ?_
    refine WL.app rfl rfl rfl rfl c2 ?_
    first | refine WL.assign rfl rfl rfl ?_
    refine WL.done ?_
    refine pn_block ?_
    refine EW.on ?_
    refine EW.region ?_
    first | refine WL.move rfl rfl rfl ?_
    refine WL.bin rfl rfl rfl rfl (int_add (c := ((x.1 + 1 : Nat) : Int)) (by rw [IntKind.wrap_i64]; omega) _ _ _) ?_
    first | refine WL.assign rfl rfl rfl ?_
    refine WL.done ?_
    exact EW.again (E := rlE q) (R := rlR w R) (m := fun x => R.length - x.1) (x := x) (x.1 + 1, v6) [0, 3, 4] rfl R6 (by show R.length - (x.1 + 1) < R.length - x.1; omega)
  · refine EW.exit ?_
    refine px_then ?_
    refine px_then ?_
    refine px_block ?_
    refine EW.on ?_
    refine EW.seq ?_
    refine EW.region ?_
    first | refine WL.move rfl rfl rfl ?_
    first | refine WL.assign rfl rfl rfl ?_
    refine WL.done ?_
    refine EW.on ?_
    refine EW.ret ?_
    exact EW.returns Try.results19 rfl ⟨_, X, rfl, fo, by rw [hX, List.take_of_length_le (by omega)], fun y hy => (hXs y hy).1, be⟩
end Go.Proofs.Ytplfelfmkgjijaa
