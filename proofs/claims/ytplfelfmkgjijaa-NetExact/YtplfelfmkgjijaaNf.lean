import Derived.Test.YtplfelfmkgjijaaNe
set_option linter.unusedVariables false
set_option linter.unusedSimpArgs false
namespace Go.Proofs.Ytplfelfmkgjijaa
open Go.RowKit

theorem b36_3v (f t : Int) (v : Value) (b : List UInt8) (hv : ∃ ao n c, v = .slice ao n c) (w : World) : (Instr.build 36 [(1, .int .i64 f), (2, .int .i64 t), (3, v)].toArray).run Try.prog w = .ok (Fl.g ⟨0, f, t, v, b⟩) w := by
  obtain ⟨ao, n, c, rfl⟩ := hv
  exact b36_3 f t ao n c b w
def isN (nodes k : Int) : Prop := 1 ≤ k ∧ k ≤ nodes
instance (nodes k : Int) : Decidable (isN nodes k) := inferInstanceAs (Decidable (_ ∧ _))
set_option maxRecDepth 100000 in
set_option maxHeartbeats 4000000 in
theorem send_no {w : World} {p r : Nat} {nodes most next : Int} {E : List Me} {c : Nat} (h : Nt w p r nodes most next E c) (fr tn : Int) (v : Value) (hno : ¬ (isN nodes fr ∧ isN nodes tn)) : Calls Try.prog 9 #[.pointer (some ⟨p, 0, none⟩), .int .i64 fr, .int .i64 tn, v] w fun e w' => e = .returned (.tuple #[.int .i64 0, .int .i64 240]) ∧ w' = w := by
  by_cases hfr : 1 ≤ fr ∧ fr ≤ nodes
  · have htn : ¬ (1 ≤ tn ∧ tn ≤ nodes) := fun e => hno ⟨hfr, e⟩
    refine calls_of_args [.pointer (some ⟨p, 0, none⟩), .int .i64 fr, .int .i64 tn, v] Try.func9 rfl 28 Try.ntmps9 (by show 4 ≤ 28; decide) ?_
    refine EW.seq ?_
    refine EW.region ?_
    first | refine WL.assign rfl rfl rfl ?_
    first | refine WL.assign rfl rfl rfl ?_
    refine WL.done ?_
    refine EW.on ?_
    refine EW.seq ?_
    refine EW.seq ?_
    refine EW.region ?_
    first | refine WL.move rfl rfl rfl ?_
    first | refine WL.move rfl rfl rfl ?_
    refine WL.call [.pointer (some ⟨p, 0, none⟩), .int .i64 fr] enter22 rfl rfl rfl (isNode_any h fr) ?_
    rintro x12 w12 ⟨rfl, hw12⟩
    refine ⟨_, rfl, ?_⟩
    rw [hw12]
    rw [decide_eq_true hfr]
    refine WL.un rfl rfl rfl (not_b _ _) ?_
    first | refine WL.move rfl rfl rfl ?_
    first | refine WL.move rfl rfl rfl ?_ | refine WL.skip _ rfl rfl rfl ?_
    first | refine WL.move rfl rfl rfl ?_ | refine WL.skip _ rfl rfl rfl ?_
    refine WL.call [.pointer (some ⟨p, 0, none⟩), .int .i64 tn] enter22 rfl rfl rfl (isNode_any h tn) ?_
    rintro x17 w17 ⟨rfl, hw17⟩
    refine ⟨_, rfl, ?_⟩
    rw [hw17]
    rw [decide_eq_false htn]
    refine WL.un rfl rfl rfl (not_b _ _) ?_
    first | refine WL.pick rfl rfl rfl rfl ?_
    refine WL.done ?_
    refine EW.on ?_
    refine EW.cond_t rfl ?_
    refine EW.seq ?_
    refine EW.region ?_
    first | refine WL.assign rfl rfl rfl ?_
    first | refine WL.assign rfl rfl rfl ?_
    refine WL.done ?_
    refine EW.on ?_
    refine EW.ret ?_
    refine pr_then ?_
    exact EW.returns2 Try.results9 rfl rfl ⟨rfl, rfl⟩
  · refine calls_of_args [.pointer (some ⟨p, 0, none⟩), .int .i64 fr, .int .i64 tn, v] Try.func9 rfl 28 Try.ntmps9 (by show 4 ≤ 28; decide) ?_
    refine EW.seq ?_
    refine EW.region ?_
    first | refine WL.assign rfl rfl rfl ?_
    first | refine WL.assign rfl rfl rfl ?_
    refine WL.done ?_
    refine EW.on ?_
    refine EW.seq ?_
    refine EW.seq ?_
    refine EW.region ?_
    first | refine WL.move rfl rfl rfl ?_
    first | refine WL.move rfl rfl rfl ?_
    refine WL.call [.pointer (some ⟨p, 0, none⟩), .int .i64 fr] enter22 rfl rfl rfl (isNode_any h fr) ?_
    rintro x12 w12 ⟨rfl, hw12⟩
    refine ⟨_, rfl, ?_⟩
    rw [hw12]
    rw [decide_eq_false hfr]
    refine WL.un rfl rfl rfl (not_b _ _) ?_
    first | refine WL.move rfl rfl rfl ?_
    first | refine WL.move rfl rfl rfl ?_ | refine WL.skip _ rfl rfl rfl ?_
    first | refine WL.move rfl rfl rfl ?_ | refine WL.skip _ rfl rfl rfl ?_
    refine WL.skip _ rfl rfl rfl ?_
    refine WL.skip _ rfl rfl rfl ?_
    first | refine WL.pick rfl rfl rfl rfl ?_
    refine WL.done ?_
    refine EW.on ?_
    refine EW.cond_t rfl ?_
    refine EW.seq ?_
    refine EW.region ?_
    first | refine WL.assign rfl rfl rfl ?_
    first | refine WL.assign rfl rfl rfl ?_
    refine WL.done ?_
    refine EW.on ?_
    refine EW.ret ?_
    refine pr_then ?_
    exact EW.returns2 Try.results9 rfl rfl ⟨rfl, rfl⟩
set_option maxRecDepth 100000 in
set_option maxHeartbeats 4000000 in
theorem send_any {w : World} {p r : Nat} {nodes most next : Int} {E : List Me} {c : Nat} (h : Nt w p r nodes most next E c) (fr tn : Int) (v : Value) (bs : List UInt8) (hv : Has w v bs) (hl : bs.length ≤ 140737488355328) (hn : 0 ≤ next ∧ next < 9000000000000000000) : Calls Try.prog 9 #[.pointer (some ⟨p, 0, none⟩), .int .i64 fr, .int .i64 tn, v] w fun e w' =>
    (¬ (isN nodes fr ∧ isN nodes tn) ∧ e = .returned (.tuple #[.int .i64 0, .int .i64 240]) ∧ Below w.heap.size w w') ∨
    ((isN nodes fr ∧ isN nodes tn) ∧ most ≤ E.length ∧ e = .returned (.tuple #[.int .i64 0, .int .i64 231]) ∧ Below w.heap.size w w') ∨
    ((isN nodes fr ∧ isN nodes tn) ∧ ¬ most ≤ E.length ∧ ∃ v', e = .returned (.tuple #[.int .i64 next, .int .i64 0]) ∧ Nt w' p r nodes most (next + 1) (E ++ [⟨⟨next, fr, tn, v', bs⟩, c⟩]) (c + 1) ∧ Fresh w v' ∧ Fx (fun k => k = p ∨ k = r) w w') := by
  by_cases hok : isN nodes fr ∧ isN nodes tn
  · obtain ⟨hfr, htn⟩ := hok
    unfold isN at hfr htn
    refine calls_of_args [.pointer (some ⟨p, 0, none⟩), .int .i64 fr, .int .i64 tn, v] Try.func9 rfl 28 Try.ntmps9 (by show 4 ≤ 28; decide) ?_
    refine EW.seq ?_
    refine EW.region ?_
    first | refine WL.assign rfl rfl rfl ?_
    first | refine WL.assign rfl rfl rfl ?_
    refine WL.done ?_
    refine EW.on ?_
    refine EW.seq ?_
    refine EW.seq ?_
    refine EW.region ?_
    first | refine WL.move rfl rfl rfl ?_
    first | refine WL.move rfl rfl rfl ?_
    refine WL.call [.pointer (some ⟨p, 0, none⟩), .int .i64 fr] enter22 rfl rfl rfl (isNode_any h fr) ?_
    rintro x12 w12 ⟨rfl, hw12⟩
    refine ⟨_, rfl, ?_⟩
    rw [hw12]
    rw [decide_eq_true hfr]
    refine WL.un rfl rfl rfl (not_b _ _) ?_
    first | refine WL.move rfl rfl rfl ?_
    first | refine WL.move rfl rfl rfl ?_ | refine WL.skip _ rfl rfl rfl ?_
    first | refine WL.move rfl rfl rfl ?_ | refine WL.skip _ rfl rfl rfl ?_
    refine WL.call [.pointer (some ⟨p, 0, none⟩), .int .i64 tn] enter22 rfl rfl rfl (isNode_any h tn) ?_
    rintro x17 w17 ⟨rfl, hw17⟩
    refine ⟨_, rfl, ?_⟩
    rw [hw17]
    rw [decide_eq_true htn]
    refine WL.un rfl rfl rfl (not_b _ _) ?_
    first | refine WL.pick rfl rfl rfl rfl ?_
    refine WL.done ?_
    refine EW.on ?_
    refine EW.cond_f rfl ?_
    refine EW.skip ?_
    refine EW.on ?_
    refine EW.seq ?_
    refine EW.region ?_
    first | refine WL.move rfl rfl rfl ?_
    first | refine WL.move rfl rfl rfl ?_
    first | refine WL.move rfl rfl rfl ?_
    first | refine WL.move rfl rfl rfl ?_
    refine WL.buildN [(1, .int .i64 fr), (2, .int .i64 tn), (3, v)] rfl rfl rfl (b36_3v fr tn v bs hv.sl _) ?_
    refine WL.call [.pointer (some ⟨p, 0, none⟩), Fl.g ⟨0, fr, tn, v, bs⟩] enter21 rfl rfl rfl (start_any h ⟨0, fr, tn, v, bs⟩ hv hl hn) ?_
    rintro x w1 (⟨g1, rfl, l1⟩ | ⟨g1, v', rfl, n1, fr1, f1⟩)
    · refine ⟨_, rfl, ?_⟩
      first | refine WL.extract rfl rfl rfl (ext_2 _ _ _).1 ?_
      first | refine WL.extract rfl rfl rfl (ext_2 _ _ _).2 ?_
      first | refine WL.assign rfl rfl rfl ?_
      first | refine WL.assign rfl rfl rfl ?_
      refine WL.done ?_
      refine EW.on ?_
      refine EW.ret ?_
      exact EW.returns2 Try.results9 rfl rfl (.inr (.inl ⟨⟨hfr, htn⟩, g1, rfl, l1⟩))
    refine ⟨_, rfl, ?_⟩
    first | refine WL.extract rfl rfl rfl (ext_2 _ _ _).1 ?_
    first | refine WL.extract rfl rfl rfl (ext_2 _ _ _).2 ?_
    first | refine WL.assign rfl rfl rfl ?_
    first | refine WL.assign rfl rfl rfl ?_
    refine WL.done ?_
    refine EW.on ?_
    refine EW.ret ?_
    exact EW.returns2 Try.results9 rfl rfl (.inr (.inr ⟨⟨hfr, htn⟩, g1, v', rfl, n1, fr1, f1⟩))
  · exact (send_no h fr tn v hok).mono fun e w' ⟨h1, h2⟩ => .inl ⟨hok, h1, by rw [h2]; exact Below.refl _ _⟩
set_option maxRecDepth 100000 in
set_option maxHeartbeats 4000000 in
theorem copy_any {w : World} {p r : Nat} {nodes most next : Int} {E : List Me} {c : Nat} (h : Nt w p r nodes most next E c) (k : Int) (hn : 0 ≤ next ∧ next < 9000000000000000000) : Calls Try.prog 8 #[.pointer (some ⟨p, 0, none⟩), .int .i64 k] w fun e w' =>
    (lkE E k = none ∧ e = .returned (.tuple #[.int .i64 0, .int .i64 230]) ∧ Below w.heap.size w w') ∨
    (∃ x, lkE E k = some x ∧ most ≤ E.length ∧ e = .returned (.tuple #[.int .i64 0, .int .i64 231]) ∧ Below w.heap.size w w') ∨
    (∃ x, lkE E k = some x ∧ ¬ most ≤ E.length ∧ ∃ v', e = .returned (.tuple #[.int .i64 next, .int .i64 0]) ∧ Nt w' p r nodes most (next + 1) (E ++ [⟨⟨next, x.f, x.t, v', x.b⟩, c⟩]) (c + 1) ∧ Fresh w v' ∧ Fx (fun k => k = p ∨ k = r) w w') := by
  have h1 := h
  have hx := lk_has h k
  obtain ⟨q, w2, w3, r2, r3, b3, l3, hq⟩ := newF w _ (sh_of hx.1)
  have h3 := h.on l3
  cases hlk : lkE E k with
  | none =>
    rw [hlk] at r3 b3 hx
    refine calls_of_args [.pointer (some ⟨p, 0, none⟩), .int .i64 k] Try.func8 rfl 24 Try.ntmps8 (by show 2 ≤ 24; decide) ?_
    refine EW.seq ?_
    refine EW.region ?_
    first | refine WL.assign rfl rfl rfl ?_
    first | refine WL.assign rfl rfl rfl ?_
    refine WL.done ?_
    refine EW.on ?_
    refine EW.seq ?_
    refine EW.region ?_
    first | refine WL.move rfl rfl rfl ?_
    first | refine WL.nilc rfl rfl rfl ?_
    refine WL.field rfl rfl rfl (g58_3 p _) ?_
    refine WL.load rfl rfl rfl (ld56 h1) ?_
    first | refine WL.move rfl rfl rfl ?_
    refine WL.lk rfl rfl rfl rfl (by have := run_lk h1.mp k; rw [hlk] at this; exact this) ?_
    first | refine WL.move rfl rfl rfl ?_
    first | refine WL.extract rfl rfl rfl (ext_2 _ _ _).1 ?_
    first | refine WL.extract rfl rfl rfl (ext_2 _ _ _).2 ?_
    refine WL.new rfl rfl r2 ?_
    refine WL.store rfl rfl rfl r3 ?_
    first | refine WL.assign rfl rfl rfl ?_
    refine WL.done ?_
    refine EW.on ?_
    refine EW.seq ?_
    refine EW.seq ?_
    refine EW.region ?_
    first | refine WL.move rfl rfl rfl ?_
    refine WL.un rfl rfl rfl (not_b _ _) ?_
    refine WL.done ?_
    refine EW.on ?_
    refine EW.cond_t rfl ?_
    refine EW.seq ?_
    refine EW.region ?_
    first | refine WL.assign rfl rfl rfl ?_
    first | refine WL.assign rfl rfl rfl ?_
    refine WL.done ?_
    refine EW.on ?_
    refine EW.ret ?_
    refine pr_then ?_
    exact EW.returns2 Try.results8 rfl rfl (.inl ⟨rfl, rfl, l3⟩)
  | some x =>
    rw [hlk] at r3 b3 hx
    simp only [Option.getD_some] at r3 b3 hx
    refine calls_of_args [.pointer (some ⟨p, 0, none⟩), .int .i64 k] Try.func8 rfl 24 Try.ntmps8 (by show 2 ≤ 24; decide) ?_
    refine EW.seq ?_
    refine EW.region ?_
    first | refine WL.assign rfl rfl rfl ?_
    first | refine WL.assign rfl rfl rfl ?_
    refine WL.done ?_
    refine EW.on ?_
    refine EW.seq ?_
    refine EW.region ?_
    first | refine WL.move rfl rfl rfl ?_
    first | refine WL.nilc rfl rfl rfl ?_
    refine WL.field rfl rfl rfl (g58_3 p _) ?_
    refine WL.load rfl rfl rfl (ld56 h1) ?_
    first | refine WL.move rfl rfl rfl ?_
    refine WL.lk rfl rfl rfl rfl (by have := run_lk h1.mp k; rw [hlk] at this; exact this) ?_
    first | refine WL.move rfl rfl rfl ?_
    first | refine WL.extract rfl rfl rfl (ext_2 _ _ _).1 ?_
    first | refine WL.extract rfl rfl rfl (ext_2 _ _ _).2 ?_
    refine WL.new rfl rfl r2 ?_
    refine WL.store rfl rfl rfl r3 ?_
    first | refine WL.assign rfl rfl rfl ?_
    refine WL.done ?_
    refine EW.on ?_
    refine EW.seq ?_
    refine EW.seq ?_
    refine EW.region ?_
    first | refine WL.move rfl rfl rfl ?_
    refine WL.un rfl rfl rfl (not_b _ _) ?_
    refine WL.done ?_
    refine EW.on ?_
    refine EW.cond_f rfl ?_
    refine EW.skip ?_
    refine EW.on ?_
    refine EW.seq ?_
    refine EW.region ?_
    first | refine WL.move rfl rfl rfl ?_
    refine WL.load rfl rfl rfl (ld36 b3) ?_
    refine WL.call [.pointer (some ⟨p, 0, none⟩), x.g] enter21 rfl rfl rfl (start_any h3 x (hx.1.below l3) hx.2 hn) ?_
    rintro y w4 (⟨g1, rfl, l1⟩ | ⟨g1, v', rfl, n1, fr1, f1⟩)
    · refine ⟨_, rfl, ?_⟩
      first | refine WL.extract rfl rfl rfl (ext_2 _ _ _).1 ?_
      first | refine WL.extract rfl rfl rfl (ext_2 _ _ _).2 ?_
      first | refine WL.assign rfl rfl rfl ?_
      first | refine WL.assign rfl rfl rfl ?_
      refine WL.done ?_
      refine EW.on ?_
      refine EW.ret ?_
      exact EW.returns2 Try.results8 rfl rfl (.inr (.inl ⟨x, rfl, g1, rfl, bt l3 l1⟩))
    refine ⟨_, rfl, ?_⟩
    first | refine WL.extract rfl rfl rfl (ext_2 _ _ _).1 ?_
    first | refine WL.extract rfl rfl rfl (ext_2 _ _ _).2 ?_
    first | refine WL.assign rfl rfl rfl ?_
    first | refine WL.assign rfl rfl rfl ?_
    refine WL.done ?_
    refine EW.on ?_
    refine EW.ret ?_
    exact EW.returns2 Try.results8 rfl rfl (.inr (.inr ⟨x, rfl, g1, v', rfl, n1, fun j hj => (by have := fr1 j hj; have := l3.size; omega), (Fx.of_below (S := fun k => k = p ∨ k = r) l3).and f1⟩))
section
variable {w w' : World} {p r : Nat} {nodes most next : Int} {E : List Me} {c : Nat}
theorem Nt.del (h : Nt w p r nodes most next E c) (k : Int) (hm : Mp w' r (delE E k) c) (hf : Fx (fun k => k = r) w w') : Nt w' p r nodes most next (delE E k) c := by
  have hsub : (delE E k).Sublist E := List.filter_sublist
  refine ⟨h.bl.fx hf h.ne, hm, fun m hm => ?_, fun m hm => h.lb m (hsub.subset hm), h.asc.sublist (hsub.map _), fun m hm => h.up m (hsub.subset hm)⟩
  have hh := h.hs m (hsub.subset hm)
  exact hh.fxo hf (fun j hj => by have e : j = r := hj; rw [e]; exact map_off hh h.mp.hp)
end
set_option maxRecDepth 100000 in
set_option maxHeartbeats 4000000 in
theorem drop_any {w : World} {p r : Nat} {nodes most next : Int} {E : List Me} {c : Nat} (h : Nt w p r nodes most next E c) (k : Int) : Calls Try.prog 12 #[.pointer (some ⟨p, 0, none⟩), .int .i64 k] w fun e w' => e = .returned (.int .i64 (if (lkE E k).isSome then 0 else 230)) ∧ Nt w' p r nodes most next (delE E k) c ∧ Fx (fun k => k = r) w w' := by
  have h1 := h
  have hx := lk_has h k
  obtain ⟨q, w2, w3, r2, r3, b3, l3, hq⟩ := newF w _ (sh_of hx.1)
  have h3 := h.on l3
  cases hlk : lkE E k with
  | none =>
    rw [hlk] at r3 b3 hx
    refine calls_of_args [.pointer (some ⟨p, 0, none⟩), .int .i64 k] Try.func12 rfl 23 Try.ntmps12 (by show 2 ≤ 23; decide) ?_
    refine EW.seq ?_
    refine EW.region ?_
    first | refine WL.assign rfl rfl rfl ?_
    refine WL.done ?_
    refine EW.on ?_
    refine EW.seq ?_
    refine EW.seq ?_
    refine EW.region ?_
    first | refine WL.move rfl rfl rfl ?_
    first | refine WL.nilc rfl rfl rfl ?_
    refine WL.field rfl rfl rfl (g58_3 p _) ?_
    refine WL.load rfl rfl rfl (ld56 h1) ?_
    first | refine WL.move rfl rfl rfl ?_
    refine WL.lk rfl rfl rfl rfl (by have := run_lk h1.mp k; rw [hlk] at this; exact this) ?_
    first | refine WL.move rfl rfl rfl ?_
    first | refine WL.extract rfl rfl rfl (ext_2 _ _ _).1 ?_
    first | refine WL.extract rfl rfl rfl (ext_2 _ _ _).2 ?_
    refine WL.new rfl rfl r2 ?_
    refine WL.store rfl rfl rfl r3 ?_
    first | refine WL.assign rfl rfl rfl ?_
    refine WL.done ?_
    refine EW.on ?_
    refine EW.seq ?_
    refine EW.region ?_
    first | refine WL.move rfl rfl rfl ?_
    refine WL.un rfl rfl rfl (not_b _ _) ?_
    refine WL.done ?_
    refine EW.on ?_
    refine EW.cond_t rfl ?_
    refine EW.seq ?_
    refine EW.region ?_
    first | refine WL.assign rfl rfl rfl ?_
    refine WL.done ?_
    refine EW.on ?_
    refine EW.ret ?_
    refine pr_then ?_
    exact EW.returns Try.results12 rfl ⟨rfl, (by rw [delE_none hlk]; exact h3), Fx.of_below l3⟩
  | some x =>
    rw [hlk] at r3 b3 hx
    simp only [Option.getD_some] at r3 b3 hx
    obtain ⟨w4, rd, m4, f4⟩ := run_del h3.mp k 0 3
    refine calls_of_args [.pointer (some ⟨p, 0, none⟩), .int .i64 k] Try.func12 rfl 23 Try.ntmps12 (by show 2 ≤ 23; decide) ?_
    refine EW.seq ?_
    refine EW.region ?_
    first | refine WL.assign rfl rfl rfl ?_
    refine WL.done ?_
    refine EW.on ?_
    refine EW.seq ?_
    refine EW.seq ?_
    refine EW.region ?_
    first | refine WL.move rfl rfl rfl ?_
    first | refine WL.nilc rfl rfl rfl ?_
    refine WL.field rfl rfl rfl (g58_3 p _) ?_
    refine WL.load rfl rfl rfl (ld56 h1) ?_
    first | refine WL.move rfl rfl rfl ?_
    refine WL.lk rfl rfl rfl rfl (by have := run_lk h1.mp k; rw [hlk] at this; exact this) ?_
    first | refine WL.move rfl rfl rfl ?_
    first | refine WL.extract rfl rfl rfl (ext_2 _ _ _).1 ?_
    first | refine WL.extract rfl rfl rfl (ext_2 _ _ _).2 ?_
    refine WL.new rfl rfl r2 ?_
    refine WL.store rfl rfl rfl r3 ?_
    first | refine WL.assign rfl rfl rfl ?_
    refine WL.done ?_
    refine EW.on ?_
    refine EW.seq ?_
    refine EW.region ?_
    first | refine WL.move rfl rfl rfl ?_
    refine WL.un rfl rfl rfl (not_b _ _) ?_
    refine WL.done ?_
    refine EW.on ?_
    refine EW.cond_f rfl ?_
    refine EW.skip ?_
    refine EW.on ?_
    refine EW.seq ?_
    refine EW.region ?_
    first | refine WL.move rfl rfl rfl ?_
    first | refine WL.nilc rfl rfl rfl ?_
    refine WL.field rfl rfl rfl (g58_3 p _) ?_
    refine WL.load rfl rfl rfl (ld56 h3) ?_
    first | refine WL.move rfl rfl rfl ?_
    refine WL.del rfl rfl rfl rd ?_
    refine WL.done ?_
    refine EW.on ?_
    refine EW.seq ?_
    refine EW.region ?_
    first | refine WL.assign rfl rfl rfl ?_
    refine WL.done ?_
    refine EW.on ?_
    refine EW.ret ?_
    exact EW.returns Try.results12 rfl ⟨rfl, h3.del k m4 f4, (Fx.of_below (S := fun k => k = r) l3).and f4⟩
set_option maxRecDepth 100000 in
set_option maxHeartbeats 4000000 in
theorem deliver_any {w : World} {p r : Nat} {nodes most next : Int} {E : List Me} {c : Nat} (h : Nt w p r nodes most next E c) (k : Int) : Calls Try.prog 14 #[.pointer (some ⟨p, 0, none⟩), .int .i64 k] w fun e w' =>
    (lkE E k = none ∧ e = .returned (.tuple #[Fl.z.g, .int .i64 230]) ∧ Below w.heap.size w w') ∨
    (∃ x v', lkE E k = some x ∧ e = .returned (.tuple #[Fl.g ⟨x.n, x.f, x.t, v', x.b⟩, .int .i64 0]) ∧ Bx w' w.heap.size v' x.b ∧ Nt w' p r nodes most next (delE E k) c ∧ Fx (fun k => k = r) w w') := by
  obtain ⟨w1, q1, r1, b1, l1, hq1, s1⟩ := new36 w
  have h1 := h.on l1
  have hx := lk_has h1 k
  obtain ⟨q, w2, w3, r2, r3, b3, l3, hq⟩ := newF w1 _ (sh_of hx.1)
  have h3 := h1.on l3
  have bz := b1.on l3
  cases hlk : lkE E k with
  | none =>
    rw [hlk] at r3 b3 hx
    obtain ⟨w4, r4, b4, f4⟩ := st36 (y := Fl.z) bz Fl.z_sh
    refine calls_of_args [.pointer (some ⟨p, 0, none⟩), .int .i64 k] Try.func14 rfl 27 Try.ntmps14 (by show 2 ≤ 27; decide) ?_
    refine EW.seq ?_
    refine EW.region ?_
    refine WL.new rfl rfl r1 ?_
    first | refine WL.assign rfl rfl rfl ?_
    refine WL.done ?_
    refine EW.on ?_
    refine EW.seq ?_
    refine EW.region ?_
    first | refine WL.move rfl rfl rfl ?_
    first | refine WL.nilc rfl rfl rfl ?_
    refine WL.field rfl rfl rfl (g58_3 p _) ?_
    refine WL.load rfl rfl rfl (ld56 h1) ?_
    first | refine WL.move rfl rfl rfl ?_
    refine WL.lk rfl rfl rfl rfl (by have := run_lk h1.mp k; rw [hlk] at this; exact this) ?_
    first | refine WL.move rfl rfl rfl ?_
    first | refine WL.extract rfl rfl rfl (ext_2 _ _ _).1 ?_
    first | refine WL.extract rfl rfl rfl (ext_2 _ _ _).2 ?_
    refine WL.new rfl rfl r2 ?_
    refine WL.store rfl rfl rfl r3 ?_
    first | refine WL.assign rfl rfl rfl ?_
    refine WL.done ?_
    refine EW.on ?_
    refine EW.seq ?_
    refine EW.seq ?_
    refine EW.region ?_
    first | refine WL.move rfl rfl rfl ?_
    refine WL.un rfl rfl rfl (not_b _ _) ?_
    refine WL.done ?_
    refine EW.on ?_
    refine EW.cond_t rfl ?_
    refine EW.seq ?_
    refine EW.region ?_
    refine WL.buildN [] rfl rfl rfl (b36_0 _) ?_
    refine WL.store rfl rfl rfl r4 ?_
    first | refine WL.assign rfl rfl rfl ?_
    refine WL.done ?_
    refine EW.on ?_
    refine EW.ret ?_
    refine pr_then ?_
    refine EW.retFT Try.results14 rfl rfl b4 (.inl ⟨rfl, rfl, (bt l1 l3).trans (f4.below (fun j hj e => by omega) (bt l1 l3).size)⟩)
  | some x =>
    rw [hlk] at r3 b3 hx
    simp only [Option.getD_some] at r3 b3 hx
    obtain ⟨w4, rd, m4, f4⟩ := run_del h3.mp k 0 3
    have n4 := h3.del k m4 f4
    have b4 : Blk w4 q x.cs 36 := b3.fx f4 (by have := h.mp.ltb; omega)
    have hx4 : Has w4 x.v x.b := by
      have hh := hx.1.below l3
      exact hh.fxo f4 (fun j hj => by have e : j = r := hj; rw [e]; exact map_off hh h3.mp.hp)
    refine calls_of_args [.pointer (some ⟨p, 0, none⟩), .int .i64 k] Try.func14 rfl 27 Try.ntmps14 (by show 2 ≤ 27; decide) ?_
    refine EW.seq ?_
    refine EW.region ?_
    refine WL.new rfl rfl r1 ?_
    first | refine WL.assign rfl rfl rfl ?_
    refine WL.done ?_
    refine EW.on ?_
    refine EW.seq ?_
    refine EW.region ?_
    first | refine WL.move rfl rfl rfl ?_
    first | refine WL.nilc rfl rfl rfl ?_
    refine WL.field rfl rfl rfl (g58_3 p _) ?_
    refine WL.load rfl rfl rfl (ld56 h1) ?_
    first | refine WL.move rfl rfl rfl ?_
    refine WL.lk rfl rfl rfl rfl (by have := run_lk h1.mp k; rw [hlk] at this; exact this) ?_
    first | refine WL.move rfl rfl rfl ?_
    first | refine WL.extract rfl rfl rfl (ext_2 _ _ _).1 ?_
    first | refine WL.extract rfl rfl rfl (ext_2 _ _ _).2 ?_
    refine WL.new rfl rfl r2 ?_
    refine WL.store rfl rfl rfl r3 ?_
    first | refine WL.assign rfl rfl rfl ?_
    refine WL.done ?_
    refine EW.on ?_
    refine EW.seq ?_
    refine EW.seq ?_
    refine EW.region ?_
    first | refine WL.move rfl rfl rfl ?_
    refine WL.un rfl rfl rfl (not_b _ _) ?_
    refine WL.done ?_
    refine EW.on ?_
    refine EW.cond_f rfl ?_
    refine EW.skip ?_
    refine EW.on ?_
    refine EW.seq ?_
    refine EW.region ?_
    first | refine WL.move rfl rfl rfl ?_
    first | refine WL.nilc rfl rfl rfl ?_
    refine WL.field rfl rfl rfl (g58_3 p _) ?_
    refine WL.load rfl rfl rfl (ld56 h3) ?_
    first | refine WL.move rfl rfl rfl ?_
    refine WL.del rfl rfl rfl rd ?_
    refine WL.done ?_
    refine EW.on ?_
    refine EW.seq ?_
    refine EW.region ?_
    refine WL.load rfl rfl rfl (ld36 b4) ?_
    refine WL.call [x.g] enter23 rfl rfl rfl (own_any x _ hx4 hx.2) ?_
    rintro y w5 ⟨v', rfl, own5, l5⟩
    refine ⟨_, rfl, ?_⟩
    obtain ⟨w6, r6, b6, f6⟩ := st36 (y := ⟨x.n, x.f, x.t, v', x.b⟩) ((bz.fx f4 (by have := h.mp.ltb; omega)).on l5) (sh_of own5.has)
    have s4 := f4.size
    have own6 : Bx w6 w.heap.size v' x.b := (own5.fx f6 (fun j hj e => by have := own5.ownBlock j hj; have := (bz.fx f4 (by have := h.mp.ltb; omega)).lt; omega)).weaken (by have := l1.size; have := l3.size; omega)
    have n6 := (n4.on l5).fx f6 (by have := h.bl.lt; omega) (by have := h.mp.ltb; omega) (fun m hm j hj => by
      have e : j = q1 := hj
      rw [e]
      exact ((n4.on l5).hs m hm).offB ((bz.fx f4 (by have := h.mp.ltb; omega)).on l5) (nob_fl Fl.z_sh))
    refine WL.store rfl rfl rfl r6 ?_
    first | refine WL.assign rfl rfl rfl ?_
    refine WL.done ?_
    refine EW.on ?_
    refine EW.ret ?_
    refine EW.retFT Try.results14 rfl rfl b6 (.inr ⟨x, v', rfl, rfl, own6, n6, (((Fx.of_below (S := fun k => k = r) (bt l1 l3)).and f4).then_below l5).trans f6 (fun i hi e => by have e' : i = q1 := e; omega)⟩)
end Go.Proofs.Ytplfelfmkgjijaa
