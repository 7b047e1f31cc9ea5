import Derived.Test.YtobfebpinkikdaaHv
set_option linter.unusedVariables false
set_option linter.unusedSimpArgs false
namespace Go.Proofs.Ytobfebpinkikdaa
open Go.RowKit

theorem eq_yes (va vb : Value) (a : List UInt8) (w : World) (ha : Has w va a) (hb : Has w vb a) : Calls Try.prog 14 #[va, vb] w fun e w' => e = .returned (.bool true) ∧ w' = w :=
  (eq_any va vb a a w ha hb).mono fun e w' ⟨h1, h2⟩ => ⟨by rw [h1]; simp, h2⟩
set_option maxRecDepth 100000 in
set_option maxHeartbeats 4000000 in
theorem same_yes (p q : Pk) (kp : p.ok) (kq : q.ok) (body : List UInt8) (w : World) (hy : Has w p.bv body) (hz : Has w q.bv body) (hk : p.k = q.k) (hl : p.hl = q.hl) (hd : p.hd = q.hd) : Calls Try.prog 15 #[p.v, q.v] w fun e w' => e = .returned (.bool true) ∧ Below w.heap.size w w' := by
  obtain ⟨w1, q1, r1, by1, e1, hq1⟩ := box_any 33 p.cs w
  obtain ⟨w2, q2, r2, bx2, e2, hq2⟩ := box_any 33 q.cs w1
  have l1 := e1.size
  have by2 := by1.on e2
  have sb2 := e1.trans (e2.mono l1)
  have hy2 := hy.below sb2
  have hz2 := hz.below sb2
  have d1 : decide (p.hl = q.hl) = true := decide_eq_true hl
  have d2 : decide (p.hd = q.hd) = true := decide_eq_true hd
  have d3 : decide (body = body) = true := decide_eq_true rfl
  refine calls_of_args [p.v, q.v] Try.func15 rfl 33 Try.ntmps15 (by show 2 ≤ 33; decide) ?_
  refine EW.seq ?_
  refine EW.region ?_
  refine WL.box rfl rfl rfl r1 ?_
  refine WL.box rfl rfl rfl r2 ?_
  first | refine WL.assign rfl rfl rfl ?_
  refine WL.done ?_
  refine EW.on ?_
  refine EW.seq ?_
  refine EW.region ?_
  refine WL.field rfl rfl rfl (f33_0 q1 0 _) ?_
  refine WL.load rfl rfl rfl (ldPkK by2) ?_
  refine WL.field rfl rfl rfl (f33_0 q2 0 _) ?_
  refine WL.load rfl rfl rfl (ldPkK bx2) ?_
  refine WL.bin rfl rfl rfl rfl (int_eq_t hk _ _ _) ?_
  first | refine WL.move rfl rfl rfl ?_
  refine WL.field rfl rfl rfl (f33_1 q1 0 _) ?_
  refine WL.load rfl rfl rfl (ldPkL by2 kp) ?_
  refine WL.field rfl rfl rfl (f33_1 q2 0 _) ?_
  refine WL.load rfl rfl rfl (ldPkL bx2 kq) ?_
  refine WL.bin rfl rfl rfl rfl (eql26 _ _ kp.l kq.l _ _ _) ?_
  rw [d1]
  first | refine WL.pick rfl rfl rfl rfl ?_
  first | refine WL.move rfl rfl rfl ?_
  refine WL.field rfl rfl rfl (f33_2 q1 0 _) ?_
  refine WL.load rfl rfl rfl (ldPkH by2 kp) ?_
  refine WL.field rfl rfl rfl (f33_2 q2 0 _) ?_
  refine WL.load rfl rfl rfl (ldPkH bx2 kq) ?_
  refine WL.bin rfl rfl rfl rfl (eql30 _ _ kp.d kq.d _ _ _) ?_
  rw [d2]
  first | refine WL.pick rfl rfl rfl rfl ?_
  first | refine WL.move rfl rfl rfl ?_
  refine WL.field rfl rfl rfl (f33_3 q1 0 _) ?_
  refine WL.load rfl rfl rfl (ldPkB by2 kp) ?_
  refine WL.conv rfl rfl rfl (hy2.convert) ?_
  refine WL.field rfl rfl rfl (f33_3 q2 0 _) ?_
  refine WL.load rfl rfl rfl (ldPkB bx2 kq) ?_
  refine WL.conv rfl rfl rfl (hz2.convert) ?_
  refine WL.bin rfl rfl rfl rfl (str_eq_d _ _ _ _ _) ?_
  rw [d3]
  first | refine WL.pick rfl rfl rfl rfl ?_
  first | refine WL.assign rfl rfl rfl ?_
  refine WL.done ?_
  refine EW.on ?_
  refine EW.ret ?_
  exact EW.returns Try.results15 rfl ⟨rfl, sb2⟩
end Go.Proofs.Ytobfebpinkikdaa
