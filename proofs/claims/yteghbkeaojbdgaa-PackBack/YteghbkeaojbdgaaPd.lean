import Derived.Test.YteghbkeaojbdgaaPc
set_option linter.unusedVariables false
set_option linter.unusedSimpArgs false
namespace Go.Proofs.Yteghbkeaojbdgaa
open Go.RowKit

def RV.same (r s : RV) : Prop := r.t = s.t ∧ r.k = s.k ∧ r.v = s.v
theorem Fresh.off {w : World} {v : Value} {bs : List UInt8} (h : Fresh w v) {k : Nat} (hk : k < w.heap.size) : Off v bs k := .inr fun e => by have := h k e; omega
theorem bld32 (t : Int) (a b : Value) (ha : ∃ ao n c, a = .slice ao n c) (hb : ∃ ao n c, b = .slice ao n c) (W : World) : (Instr.build 32 [(0, .int .i64 t), (1, a), (2, b)].toArray).run Try.prog W = .ok (.agg [.int .i64 t, a, b].toArray) W := by
  obtain ⟨_, _, _, rfl⟩ := ha
  obtain ⟨_, _, _, rfl⟩ := hb
  go_simp
  try rfl
theorem Has.sl {w : World} {v : Value} {bs : List UInt8} (h : Has w v bs) : ∃ ao n c, v = .slice ao n c := by
  obtain ⟨ao, c, rfl⟩ := h.slice
  exact ⟨_, _, _, rfl⟩
def z32 : List Value := [.int .i64 0, .slice none 0 0, .slice none 0 0]
theorem new32 (w : World) : ∃ w1 q, (Instr.alloc 32 true (.tuple #[])).run Try.prog w = .ok (.pointer (some ⟨q, 0, none⟩)) w1 ∧ Blk w1 q z32 32 ∧ Below w.heap.size w w1 ∧ q = w.heap.size :=
  ⟨_, _, run_newR 32 z32 (fun w => by rw [Try.zeroValue32]; rfl) w _ rfl, Blk.new _ _ _, below_new _ _, rfl⟩
theorem st32 {w : World} {q : Nat} {old : List Value} {r : RV} (hb : Blk w q old 32) (ho : old.length = 3) (hr : r.cs.toArray.all (·.oneCell') = true) : ∃ w', (Instr.storeAt 32 (.pointer (some ⟨q, 0, none⟩)) r.val).run Try.prog w = .ok () w' ∧ Blk w' q r.cs 32 ∧ Fx (fun k => k = q) w w' :=
  ⟨_, run_storeR hb (info32 r) ho hr, hb.setRow _, by
    refine ⟨rfl, rfl, rfl, by simp [World.setRow], fun k hk hn => ?_⟩
    simp only [World.setRow]
    rw [Array.getElem?_modify]
    rw [if_neg (fun e => hn e.symm)]⟩
set_option maxRecDepth 100000 in
set_option maxHeartbeats 1000000 in
theorem own_any (r : RV) (w : World) (hr : r.ok w) (hk : r.k.length ≤ 140737488355328) (hv : r.v.length ≤ 140737488355328) : Calls Try.prog 49 #[r.val] w fun e w' => ∃ r' : RV, e = .returned r'.val ∧ r'.ok w' ∧ r'.same r ∧ Fresh w r'.vk ∧ Fresh w r'.vv ∧ Below w.heap.size w w' := by
  obtain ⟨w1, q1, r1, b1, e1, hq1⟩ := box32 r w
  obtain ⟨w2, q2, r2, b2, f2, hq2⟩ := new32 w1
  have e2 := e1.trans (f2.mono e1.size)
  replace b1 := b1.on f2
  have l1 := e1.size
  have l2 := e2.size
  refine calls_of_args [r.val] Try.func49 rfl 12 Try.ntmps49 (by show 1 ≤ 12; decide) ?_
  refine EW.seq ?_
  refine EW.region ?_
  refine WL.box rfl rfl rfl r1 ?_
  refine WL.new rfl rfl r2 ?_
  refine WL.done ?_
  refine EW.on ?_
  refine EW.seq ?_
  refine EW.ordB [(0, 0, 0), (1, 0, 1), (2, 0, 0), (3, 0, 1), (5, 0, 0), (6, 0, 1), (4, 1, 1), (7, 1, 1), (8, 0, 0), (9, 1, 0)] (by kernel_rfl) rfl (by kernel_rfl) ?_
  simp only [opsZ, List.getD_cons_zero, List.getD_cons_succ]
  refine ZE.field rfl rfl rfl rfl sz0 (fun W => rfld0 _ W) ?_
  refine ZE.load rfl rfl rfl rfl sz1 (fun W hW => ldI (b1.on (sb_of hW)) rfl) ?_
  refine ZE.field rfl rfl rfl rfl sz0 (fun W => rfld1 _ W) ?_
  refine ZE.load rfl rfl rfl rfl sz1 (fun W hW => ldS (b1.on (sb_of hW)) rfl) ?_
  refine ZE.field rfl rfl rfl rfl sz0 (fun W => rfld2 _ W) ?_
  refine ZE.load rfl rfl rfl rfl sz1 (fun W hW => ldS (b1.on (sb_of hW)) rfl) ?_
  refine ZE.callR [r.vk] (fun v W => Has W v r.k ∧ Fresh w2 v ∧ Below w2.heap.size w2 W) enter43 rfl rfl rfl (fun _ _ h => .inr h.2.2) (fun W hW => (clone_any _ _ W (hr.hk.below (e2.trans (hW.mono e2.size))) hk).mono fun e w' ⟨v', h1, h2, h3, h4⟩ => ⟨v', h1, h2, fun k hk => by have := h3 k hk; have := hW.size; omega, hW.trans (h4.mono hW.size)⟩) ?_
  rintro v1 ⟨_, g1, fr1, _⟩
  refine ZE.callR [r.vv] (fun v W => Has W v r.v ∧ Fresh w2 v ∧ Has W v1 r.k ∧ Below w2.heap.size w2 W) enter43 rfl rfl rfl (fun _ _ h => .inr h.2.2.2) (fun W hW => (clone_any _ _ W (hr.hv.below (e2.trans (hW.2.2.mono e2.size))) hv).mono fun e w' ⟨v', h1, h2, h3, h4⟩ => ⟨v', h1, h2, fun k hk => by have := h3 k hk; have := hW.2.2.size; omega, hW.1.below h4, hW.2.2.trans (h4.mono hW.2.2.size)⟩) ?_
  rintro v2 ⟨_, g2, fr2, _, _⟩
  refine ZE.buildN [(0, .int .i64 r.t), (1, v1), (2, v2)] rfl rfl rfl rfl sz0 (fun W => bld32 r.t v1 v2 g1.sl g2.sl W) ?_
  refine ZE.store (fun W => Blk W q2 (⟨r.t, v1, v2, r.k, r.v⟩ : RV).cs 32 ∧ (⟨r.t, v1, v2, r.k, r.v⟩ : RV).ok W ∧ Below w.heap.size w W) rfl rfl rfl (fun _ _ => .inl rfl) (fun W hW => ?_) ?_
  · obtain ⟨h1, _, h3, h4⟩ := hW
    have ok : (⟨r.t, v1, v2, r.k, r.v⟩ : RV).ok W := ⟨h3, h1⟩
    obtain ⟨W', s1, s2, s3⟩ := st32 (b2.on h4) rfl ok.one
    refine ⟨W', s1, s2, ok.fx s3 (fun k hk => ?_), (e2.trans (h4.mono e2.size)).trans (s3.below (fun k hk e => by omega) (by have := h4.size; omega))⟩
    have l3 := b2.lt
    rw [show k = q2 from hk]
    exact ⟨fr1.off l3, fr2.off l3⟩
  rintro w3 ⟨bq, ok3, be3⟩
  refine EW.on ?_
  refine EW.ret ?_
  exact EW.returnsC Try.results49 rfl bq Try.underlying32 rfl (info32 _) ⟨⟨r.t, v1, v2, r.k, r.v⟩, rfl, ok3, ⟨rfl, rfl, rfl⟩, fun k hk => by have := fr1 k hk; omega, fun k hk => by have := fr2 k hk; omega, be3⟩
end Go.Proofs.Yteghbkeaojbdgaa
