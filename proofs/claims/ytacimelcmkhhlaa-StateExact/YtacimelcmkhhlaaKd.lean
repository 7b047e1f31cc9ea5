import Derived.Test.YtacimelcmkhhlaaKc
set_option linter.unusedVariables false
set_option linter.unusedSimpArgs false
namespace Go.Proofs.Ytacimelcmkhhlaa
open Go.RowKit

theorem row_item {w : World} {v : Value} {n : Nat} {xs : List Value} (h : w.ownsRow 0 38 1 v n xs) (i : Nat) {u : Value} (hi : xs[i]? = some u) : ∃ ad, (∀ W, (Instr.indexAt 57 v (.int .i64 (i : Int))).run Try.prog W = .ok (.pointer (some ad)) W) ∧ ∀ W, Below w.heap.size w W → (Instr.loadAt 38 (.pointer (some ad))).run Try.prog W = .ok u W := by
  have hn := h.1
  obtain ⟨hx, ⟨rfl, h0⟩ | ⟨g, cp, cur, rfl, hg, hh2, hnc, hc, hs, htk⟩⟩ := h
  · have := (List.getElem?_eq_some_iff.1 hi).1
    simp at hx
    omega
  · have hil := (List.getElem?_eq_some_iff.1 hi).1
    have hbl : Blk w g cur.toList 38 := by unfold Blk; simpa using hh2
    have hx' : xs.length = n := by simpa using hx
    refine ⟨⟨g, i, none⟩, fun W => idx57 g n cp i (by omega) W, fun W hW => ldS (hbl.on hW) ?_⟩
    rw [← htk] at hi
    rw [List.getElem?_take] at hi
    split at hi
    · exact hi
    · cases hi
def HoI (w : World) (n : Nat) (t : Nat) (W : World) : Prop := t ≤ n ∧ Below w.heap.size w W
def hoE (qb t : Nat) : List (Nat × Value) := [(0, .pointer (some ⟨qb, 0, none⟩)), (3, .int .i64 (t : Int))]
set_option maxRecDepth 100000 in
set_option maxHeartbeats 4000000 in
theorem holds_any (w : World) (b qb : Nat) (L V : Value) (es : List En3) (hB : Bk w b qb L V es) (hes : es.length ≤ 2000) : Calls Try.prog 19 #[.pointer (some ⟨qb, 0, none⟩)] w fun e w' => e = .returned (.bool true) ∧ Below w.heap.size w w' := by
  refine calls_of_args [.pointer (some ⟨qb, 0, none⟩)] Try.func19 rfl 29 Try.ntmps19 (by show 1 ≤ 29; decide) ?_
  refine EW.seq ?_
  refine EW.region ?_
  first | refine WL.assign rfl rfl rfl ?_
  refine WL.done ?_
  refine EW.on ?_
  refine EW.seq ?_
  refine EW.seq ?_
  refine EW.region ?_
  first | refine WL.assign rfl rfl rfl ?_
  refine WL.done ?_
  refine EW.on ?_
  refine EW.block ?_
  refine EW.loop (hoE qb) (HoI w es.length) (fun t => es.length - t) 0 [0, 3] rfl ⟨Nat.zero_le _, Below.refl _ _⟩ ?_
  rintro t wi ⟨htl, be⟩
  show EW _ _ _ _ [(0, .pointer (some ⟨qb, 0, none⟩)), (3, .int .i64 (t : Int))] _
  refine EW.seq ?_
  refine EW.seq ?_
  refine EW.region ?_
  first | refine WL.move rfl rfl rfl ?_
  first | refine WL.move rfl rfl rfl ?_
  first | refine WL.nilc rfl rfl rfl ?_
  refine WL.field rfl rfl rfl (f59_0 qb 0 _) ?_
  refine WL.load rfl rfl rfl (ldL (hB.bl.on be) rfl) ?_
  refine WL.len rfl rfl rfl (len55' hB.ol _ _) ?_
  refine WL.bin rfl rfl rfl rfl (int_lt_d _ _ _ _ _) ?_
  refine WL.done ?_
  refine EW.on ?_
  refine EW.cond_d rfl (fun h10 => ?_) (fun h10 => ?_)
  · refine EW.skip ?_
    refine EW.on ?_
    refine EW.seq ?_
    refine EW.block ?_
    refine EW.seq ?_
    have hlt : t < es.length := by omega
    obtain ⟨en, hen⟩ : ∃ en, es[t]? = some en := ⟨_, List.getElem?_eq_getElem hlt⟩
    have hem : en ∈ es := List.mem_of_getElem? hen
    obtain ⟨adl, ixl, ldl⟩ := row_item hB.ol t (u := en.1) (by rw [List.getElem?_map, hen]; rfl)
    obtain ⟨adv, ixv, ldv⟩ := row_item hB.ov t (u := en.2.1) (by rw [List.getElem?_map, hen]; rfl)
    refine EW.ordB [(0, 0, 0), (1, 0, 0), (2, 0, 0), (3, 0, 1), (4, 0, 0), (5, 0, 0), (6, 0, 1), (7, 0, 0), (8, 0, 0), (9, 0, 0), (10, 0, 1), (11, 0, 0), (12, 0, 0), (13, 0, 1), (14, 1, 1), (15, 0, 0)] (by kernel_rfl) rfl (by kernel_rfl) ?_
    simp only [opsZ, List.getD_cons_zero, List.getD_cons_succ]
    first | refine ZE.move rfl rfl rfl rfl sz0 ?_
    first | refine ZE.nilc rfl rfl rfl rfl sz0 ?_
    refine ZE.field rfl rfl rfl rfl sz0 (fun W => f59_0 qb 0 W) ?_
    refine ZE.load rfl rfl rfl rfl sz1 (fun W hW => ldL ((hB.bl.on be).on (sb_of hW)) rfl) ?_
    first | refine ZE.move rfl rfl rfl rfl sz0 ?_
    refine ZE.index rfl rfl rfl rfl rfl sz0 (ixl) ?_
    refine ZE.load rfl rfl rfl rfl sz1 (fun W hW => ldl W (be.trans ((sb_of hW).mono be.size))) ?_
    first | refine ZE.move rfl rfl rfl rfl sz0 ?_
    first | refine ZE.nilc rfl rfl rfl rfl sz0 ?_
    refine ZE.field rfl rfl rfl rfl sz0 (fun W => f59_1 qb 0 W) ?_
    refine ZE.load rfl rfl rfl rfl sz1 (fun W hW => ldL ((hB.bl.on be).on (sb_of hW)) rfl) ?_
    first | refine ZE.move rfl rfl rfl rfl sz0 ?_
    refine ZE.index rfl rfl rfl rfl rfl sz0 (ixv) ?_
    refine ZE.load rfl rfl rfl rfl sz1 (fun W hW => ldv W (be.trans ((sb_of hW).mono be.size))) ?_
    refine ZE.callV [en.1, en.2.1] (.bool true) (fun W => Below wi.heap.size wi W) enter17 rfl rfl rfl (fun _ h => .inr h) (fun W hW => (eq_yes _ _ en.2.2 W ((hB.hs en hem).1.below (be.trans (hW.mono be.size))) ((hB.hs en hem).2.below (be.trans (hW.mono be.size)))).mono fun e w' ⟨h1, h2⟩ => ⟨h1, by rw [h2]; exact hW⟩) ?_
    first | refine ZE.un rfl rfl rfl rfl sz0 (fun W => not_t _ W) ?_
    rintro w4 b4
    refine EW.on ?_
    refine EW.cond_f rfl ?_
    refine EW.skip ?_
    refine pn_block ?_
    refine EW.on ?_
    refine EW.region ?_
    first | refine WL.move rfl rfl rfl ?_
    refine WL.bin rfl rfl rfl rfl (int_add (c := ((t + 1 : Nat) : Int)) (by rw [IntKind.wrap_i64]; omega) _ _ _) ?_
    first | refine WL.assign rfl rfl rfl ?_
    refine WL.done ?_
    exact EW.again (E := hoE qb) (R := HoI w es.length) (m := fun t => es.length - t) (x := t) (t + 1) [0, 3] rfl ⟨by omega, be.trans (b4.mono be.size)⟩ (by show es.length - (t + 1) < es.length - t; omega)
  · refine EW.exit ?_
    refine px_then ?_
    refine px_then ?_
    refine px_block ?_
    refine EW.on ?_
    refine EW.seq ?_
    refine EW.region ?_
    first | refine WL.assign rfl rfl rfl ?_
    refine WL.done ?_
    refine EW.on ?_
    refine EW.ret ?_
    exact EW.returns Try.results19 rfl ⟨rfl, be⟩
end Go.Proofs.Ytacimelcmkhhlaa
