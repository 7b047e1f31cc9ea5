import Derived.Test.YtggehhlobjjmpaaSi
set_option linter.unusedVariables false
set_option linter.unusedSimpArgs false
namespace Go.Proofs.Ytggehhlobjjmpaa
open Go.RowKit

set_option maxRecDepth 100000 in
set_option maxHeartbeats 4000000 in
theorem copy_any {w : World} {p r most : Nat} {E : List Me} {c : Nat} (h : Tb w p r most E c) : Calls Try.prog 12 #[.pointer (some ⟨p, 0, none⟩)] w fun e w' => ∃ p' r', e = .returned (.pointer (some ⟨p', 0, none⟩)) ∧ Tb w' p' r' most E c ∧ w.heap.size ≤ p' ∧ w.heap.size ≤ r' ∧ Below w.heap.size w w' := by
  refine calls_of_args [.pointer (some ⟨p, 0, none⟩)] Try.func12 rfl 14 Try.ntmps12 (by show 1 ≤ 14; decide) ?_
  refine EW.seq ?_
  refine EW.region ?_
  first | refine WL.assign rfl rfl rfl ?_
  refine WL.done ?_
  refine EW.on ?_
  refine EW.seq ?_
  refine EW.ordB [(0, 0, 0), (1, 0, 0), (2, 0, 0), (3, 0, 1), (4, 0, 0), (5, 0, 0), (6, 0, 0), (7, 0, 1), (8, 1, 1), (9, 0, 0), (10, 1, 1), (11, 0, 0)] (by kernel_rfl) rfl (by kernel_rfl) ?_
  simp only [opsZ, List.getD_cons_zero, List.getD_cons_succ]
  first | refine ZE.move rfl rfl rfl rfl sz0 ?_
  first | refine ZE.nilc rfl rfl rfl rfl sz0 ?_
  refine ZE.field rfl rfl rfl rfl sz0 (fun W => g59_0 p W) ?_
  refine ZE.load rfl rfl rfl rfl sz1 (fun W hW => ldM (h.on (sb_of hW))) ?_
  first | refine ZE.move rfl rfl rfl rfl sz0 ?_
  first | refine ZE.nilc rfl rfl rfl rfl sz0 ?_
  refine ZE.field rfl rfl rfl rfl sz0 (fun W => g59_1 p W) ?_
  refine ZE.load rfl rfl rfl rfl sz1 (fun W hW => ld57 (h.on (sb_of hW))) ?_
  refine ZE.callR [.map (some r)] (fun v W => ∃ r', v = .map (some r') ∧ Mp W r' E c ∧ w.heap.size ≤ r' ∧ Below w.heap.size w W) enter21 rfl rfl rfl (fun _ _ ⟨_, _, _, _, h⟩ => .inr h) (fun W hW => (clone_any (h.on hW).mp).mono fun e w' ⟨h1, h2, h3⟩ => ⟨_, h1, _, rfl, h2, hW.size, bt hW h3⟩) ?_
  rintro vm ⟨W0, r', rfl, _, hr', _⟩
  refine ZE.sub (fun W => Mp W r' E c ∧ Below w.heap.size w W) (fun W ⟨_, h1, h2, _, h3⟩ => by cases h1; exact ⟨h2, h3⟩) ?_
  refine ZE.buildN [(0, .int .i64 (most : Int)), (1, .map (some r'))] rfl rfl rfl rfl sz0 (fun W => b59 _ _ W) ?_
  refine ZE.eff (fun v W => ∃ p', v = .pointer (some ⟨p', 0, none⟩) ∧ Tb W p' r' most E c ∧ w.heap.size ≤ p' ∧ Below w.heap.size w W) rfl rfl (fun _ _ ⟨_, _, _, _, h⟩ => .inr h) (fun W ⟨hm, hW⟩ => ?_) ?_
  · obtain ⟨w5, q5, r5, b5, l5, hq5⟩ := box59 (most : Int) r' W
    exact ⟨_, w5, fun a ha => by simp only [execOp, ha.ev (x := .tmp 12) rfl, Sem.run_bind, r5, Result.andThen_ok, Sem.run_pure], q5, rfl, ⟨b5, hm.on l5⟩, by have := hW.size; omega, bt hW l5⟩
  rintro vb ⟨W1, p', rfl, _, hp', _⟩
  first | refine ZE.assign rfl rfl rfl rfl sz0 ?_
  rintro W ⟨p2, hp2, hT, _, hB⟩
  cases hp2
  refine EW.on ?_
  refine EW.ret ?_
  exact EW.returns Try.results12 rfl ⟨p', r', rfl, hT, hp', hr', hB⟩
end Go.Proofs.Ytggehhlobjjmpaa
