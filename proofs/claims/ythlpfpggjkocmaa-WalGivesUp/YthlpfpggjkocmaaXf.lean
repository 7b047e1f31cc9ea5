import Derived.Test.YthlpfpggjkocmaaXeG
set_option linter.unusedVariables false
set_option linter.unusedSimpArgs false
namespace Go.Proofs.Ythlpfpggjkocmaa
open Go.RowKit

/-- One page more. -/
theorem Pws.push {w : World} {v : Value} {l : List Pw} (h : Pws w v l) (hl : l.length ≤ 1000) (x : Pw) (q c : Nat) (hq : Blk w q (pgC x) 111) (hx : x.ok w) (hsep : ∀ y ∈ l ++ [x], ∀ k, v.ownBlock = some k → y.v.ownBlock ≠ some k) (ty : TypeId) : ∃ v' w', (Builtin.append_ #[72, 72] ty #[v, .slice (some ⟨q, 0, none⟩) 1 c]).run Try.prog w = .ok v' w' ∧ Pws w' v' (l ++ [x]) ∧ Fx (fun k => v.ownBlock = some k) w w' ∧ (∀ k, v'.ownBlock = some k → v.ownBlock = some k ∨ w.heap.size ≤ k) := by
  obtain ⟨i, hi, hz⟩ := Option.map_eq_some_iff.1 info111f
  simp only [Prod.mk.injEq] at hz
  obtain ⟨v', w', r1, r2, r3, r4⟩ := run_appx w 72 ty 111 i _ 2 32 Try.underlying72 hi hz.1 hz.2.1 hz.2.2 rfl (by decide) v l.length (l.flatMap pgC) h.row ⟨q, 0, none⟩ 1 c (pgC x) rfl (fun j u hj => by rw [add_plain0, hq.cell]; exact hj) (fun u hu => pg_one (l := [x]) (w := w) (fun y hy => by rw [List.mem_singleton.1 hy]; exact hx) u (by simpa using hu)) (by omega) (by decide)
  have hf := grown_fx r3
  refine ⟨v', w', r1, ⟨by simpa using r2, fun y hy => ?_⟩, hf, r4⟩
  have hok : y.ok w := by
    rcases List.mem_append.1 hy with e | e
    · exact h.has y e
    · rw [List.mem_singleton.1 e]; exact hx
  exact ⟨hok.1.fx hf (fun k hk hv => hsep y hy k hv hk), hok.2⟩
theorem bsl72 (x : Pw) (hx : ∃ ao n c, x.v = .slice ao n c) (w : World) : (Instr.buildSlice 72 1 [(0, .agg (pgC x).toArray)].toArray).run Try.prog w = .ok (.slice (some ⟨w.heap.size, 0, none⟩) 1 1) (w.alloc (.cells (pgC x).toArray 111)) := by
  obtain ⟨ao, n, c, e⟩ := hx
  unfold pgC
  rw [e]
  go_simp
  try rfl
theorem bld111 (x : Pw) (hx : ∃ ao n c, x.v = .slice ao n c) (W : World) : (Instr.build 111 [(0, .int .i64 (x.n : Int)), (1, x.v)].toArray).run Try.prog W = .ok (.agg (pgC x).toArray) W := by
  obtain ⟨ao, n, c, e⟩ := hx
  unfold pgC
  rw [e]
  kernel_rfl
theorem mk72 (w : World) (c : Nat) (hc : c ≤ 1000) : ∃ v w', (Instr.makeSlice 72 (.int .i64 0) (.int .i64 (c : Int))).run Try.prog w = .ok v w' ∧ w'.ownsRow 0 111 2 v 0 [] ∧ Below w.heap.size w w' ∧ (∀ k, v.ownBlock = some k → w.heap.size ≤ k) := by
  obtain ⟨i, hi, hz⟩ := Option.map_eq_some_iff.1 info111f
  simp only [Prod.mk.injEq] at hz
  obtain ⟨hz0, hz1, hz2⟩ := hz
  have hrun := run_make (P := Try.prog) w 72 111 i _ Try.underlying72 hi hz0 .i64 .i64 0 c (by omega) (by omega) (by rw [hz2]; omega) (by omega)
  rw [hz1, Int.toNat_natCast] at hrun
  refine ⟨_, _, hrun, ⟨rfl, .inr ⟨w.heap.size, c, _, rfl, Nat.zero_le _, heap_alloc_new w _, Nat.zero_le _, by unfold maxLen; omega, by rw [size_madeCells], by simp⟩⟩, below_new _ _, fun k hk => ?_⟩
  simp [Value.ownBlock] at hk
  omega
theorem len76 (ao : Option Addr) (n c : Nat) (W : World) (ty : TypeId) : (Builtin.len_ #[76] ty #[.slice ao n c]).run Try.prog W = .ok (.int .i64 (n : Int)) W := by go_simp
theorem idx76 (g : Nat) (W : World) : (Instr.indexAt 76 (.slice (some ⟨g, 0, none⟩) 1 1) (.int .i64 ((0 : Nat) : Int))).run Try.prog W = .ok (.pointer (some ⟨g, 0, none⟩)) W := by
  have e : (⟨g, 0, none⟩ : Addr).add 0 = ⟨g, 0, none⟩ := add_plain0 g 0
  go_simp
theorem info75 (num : Nat) (fill : UInt8) : (Try.prog.info? 75).map (·.size) = some (paC num fill).length := by kernel_rfl
theorem ld75 {W : World} {g num : Nat} {fill : UInt8} (hb : Blk W g (paC num fill) 75) : (Instr.loadAt 75 (.pointer (some ⟨g, 0, none⟩))).run Try.prog W = .ok (.agg (paC num fill).toArray) W := run_loadR hb Try.underlying75 rfl (info75 num fill)
def liE (vs : Value) (x : Nat × Value) : List (Nat × Value) := [(0, vs), (1, .bool false), (5, x.2), (6, .int .i64 (x.1 : Int))]
def LiR (w : World) (num : Nat) (fill : UInt8) (x : Nat × Value) (W : World) : Prop := Below w.heap.size w W ∧ (∀ k, x.2.ownBlock = some k → w.heap.size ≤ k) ∧ ((x.1 = 0 ∧ W.ownsRow 0 111 2 x.2 0 []) ∨ (x.1 = 1 ∧ ∃ vb, Pws W x.2 [⟨num, vb, pgB num fill⟩] ∧ ∀ k, vb.ownBlock = some k → w.heap.size ≤ k ∧ k < W.heap.size))
set_option maxRecDepth 100000 in
set_option maxHeartbeats 1000000 in
theorem list_1 {w : World} {g num : Nat} {fill : UInt8} (hnum : num < 60000) (hb : Blk w g (paC num fill) 75) : Calls Try.prog 37 #[.slice (some ⟨g, 0, none⟩) 1 1, .bool false] w fun e w' => ∃ v vb, e = .returned v ∧ Pws w' v [⟨num, vb, pgB num fill⟩] ∧ Below w.heap.size w w' ∧ (∀ k, vb.ownBlock = some k → w.heap.size ≤ k ∧ k < w'.heap.size) := by
  refine calls_of_args [.slice (some ⟨g, 0, none⟩) 1 1, .bool false] Try.func37 rfl 47 Try.ntmps37 (by show 2 ≤ 47; decide) ?_
  refine EW.seq ?_
  refine EW.region ?_
  first | refine WL.assign rfl rfl rfl ?_
  refine WL.done ?_
  refine EW.on ?_
  refine EW.seq ?_
  refine EW.region ?_
  first | refine WL.move rfl rfl rfl ?_
  refine WL.len rfl rfl rfl (len76 _ _ _ _ _) ?_
  refine WL.bin rfl rfl rfl rfl (int_add (c := ((2 : Nat) : Int)) (by decide) _ _ _) ?_
  obtain ⟨v0, w1, r1, o1, e1, f1⟩ := mk72 w 2 (by decide)
  refine WL.mks rfl rfl rfl rfl r1 ?_
  first | refine WL.assign rfl rfl rfl ?_
  refine WL.done ?_
  refine EW.on ?_
  refine EW.seq ?_
  refine EW.seq ?_
  refine EW.region ?_
  first | refine WL.assign rfl rfl rfl ?_
  refine WL.done ?_
  refine EW.on ?_
  refine EW.block ?_
  refine EW.loop (liE (.slice (some ⟨g, 0, none⟩) 1 1)) (LiR w num fill) (fun x => 1 - x.1) (0, v0) [0, 1, 5, 6] rfl ⟨e1, f1, .inl ⟨rfl, o1⟩⟩ ?_
  rintro ⟨t, v⟩ wi ⟨ei, fi, hcs⟩
  simp only at fi hcs
  show EW _ _ _ _ [(0, .slice (some ⟨g, 0, none⟩) 1 1), (1, .bool false), (5, v), (6, .int .i64 (t : Int))] _
  refine EW.seq ?_
  refine EW.seq ?_
  rcases hcs with ⟨h0, hown⟩ | ⟨h1, vb, pw, hvb⟩
  all_goals subst_vars
  · refine EW.region ?_
    first | refine WL.move rfl rfl rfl ?_
    first | refine WL.move rfl rfl rfl ?_
    refine WL.len rfl rfl rfl (len76 _ _ _ _ _) ?_
    refine WL.bin rfl rfl rfl rfl (int_lt_t (by decide) _ _ _) ?_
    first | refine WL.move rfl rfl rfl ?_
    first | refine WL.move rfl rfl rfl ?_ | refine WL.skip _ rfl rfl rfl ?_
    first | refine WL.bin rfl rfl rfl rfl (int_lt_t (by decide) _ _ _) ?_ | refine WL.skip _ rfl rfl rfl ?_
    first | refine WL.pick rfl rfl rfl rfl ?_
    refine WL.done ?_
    refine EW.on ?_
    refine EW.cond_t rfl ?_
    refine EW.skip ?_
    refine EW.on ?_
    refine EW.seq ?_
    refine EW.block ?_
    refine EW.seq ?_
    refine EW.region ?_
    first | refine WL.move rfl rfl rfl ?_
    first | refine WL.move rfl rfl rfl ?_
    refine WL.index rfl rfl rfl rfl (idx76 g _) ?_
    refine WL.load rfl rfl rfl (ld75 (hb.on ei)) ?_
    refine WL.call [.agg (paC num fill).toArray] enter63 rfl rfl rfl (bytes_ok num fill hnum wi) ?_
    rintro _ w2 ⟨u, rfl, o2, e2⟩
    have e02 := ei.trans (e2.mono ei.size)
    refine ⟨_, rfl, ?_⟩
    first | refine WL.assign rfl rfl rfl ?_
    refine WL.done ?_
    refine EW.on ?_
    refine EW.seq ?_
    refine EW.region ?_
    first | refine WL.move rfl rfl rfl ?_
    refine WL.len rfl rfl rfl (o2.has.len _ _) ?_
    first | refine WL.assign rfl rfl rfl ?_
    refine WL.done ?_
    have hx2 : Pw.ok w2 ⟨num, cutV u 0 (pgB num fill).length, pgB num fill⟩ := ⟨by have := o2.has.cut 0 (pgB num fill).length (Nat.zero_le _) (Nat.le_refl _); simpa using this, pgB_len num fill⟩
    refine EW.on ?_
    refine EW.seq ?_
    refine EW.seq ?_
    refine EW.region ?_
    first | refine WL.move rfl rfl rfl ?_
    refine WL.done ?_
    refine EW.on ?_
    refine EW.cond_f rfl ?_
    refine EW.skip ?_
    refine EW.on ?_
    refine EW.ordB [(0, 0, 0), (1, 0, 0), (2, 0, 0), (3, 0, 0), (4, 0, 0), (5, 0, 1), (6, 0, 0), (7, 0, 0), (8, 0, 0), (9, 0, 0), (10, 1, 1), (11, 1, 0), (12, 0, 0)] (by kernel_rfl) rfl (by kernel_rfl) ?_
    simp only [opsZ, List.getD_cons_zero, List.getD_cons_succ]
    first | refine ZE.move rfl rfl rfl rfl sz0 ?_
    first | refine ZE.move rfl rfl rfl rfl sz0 ?_
    first | refine ZE.move rfl rfl rfl rfl sz0 ?_
    refine ZE.index rfl rfl rfl rfl rfl sz0 (fun W => idx76 g W) ?_
    refine ZE.field rfl rfl rfl rfl sz0 (fun W => fld75 g 0 (by decide) W) ?_
    refine ZE.load rfl rfl rfl rfl sz1 (fun W hW => ldc3 ((hb.on e02).on (sb_of hW)) rfl) ?_
    first | refine ZE.move rfl rfl rfl rfl sz0 ?_
    first | refine ZE.move rfl rfl rfl rfl sz0 ?_
    refine ZE.sliceH rfl rfl rfl rfl rfl sz0 (fun W => by rw [sl37]; exact o2.has.cutH _ (Nat.le_refl _) W) ?_
    refine ZE.buildN [(0, .int .i64 (num : Int)), (1, cutV u 0 (pgB num fill).length)] rfl rfl rfl rfl sz0 (fun W => bld111 ⟨num, cutV u 0 (pgB num fill).length, pgB num fill⟩ (has_shape hx2.1) W) ?_
    refine ZE.bsl [(0, .agg (pgC ⟨num, cutV u 0 (pgB num fill).length, pgB num fill⟩).toArray)] (fun v W => (∃ q, v = .slice (some ⟨q, 0, none⟩) 1 1 ∧ w2.heap.size ≤ q ∧ Blk W q (pgC ⟨num, cutV u 0 (pgB num fill).length, pgB num fill⟩) 111) ∧ Below w2.heap.size w2 W) rfl rfl rfl (fun _ _ h => .inr h.2) (fun W hW => ⟨_, _, bsl72 _ (has_shape hx2.1) W, ⟨_, rfl, hW.size, Blk.new _ _ _⟩, hW.trans ((below_new W _).mono hW.size)⟩) ?_
    rintro _ ⟨_, ⟨qs, rfl, _, _⟩, _⟩
    refine ZE.app (fun v W => (Pws W v [⟨num, cutV u 0 (pgB num fill).length, pgB num fill⟩] ∧ ∀ k, v.ownBlock = some k → w.heap.size ≤ k) ∧ Below w.heap.size w W ∧ w2.heap.size ≤ W.heap.size) rfl rfl rfl rfl (fun _ _ h => .inl rfl) (fun W hW => by
      obtain ⟨⟨q', hv', hq', bq'⟩, eW⟩ := hW
      injection hv' with hv1 _ _
      injection hv1 with hv2
      injection hv2 with hv3 _ _
      subst hv3
      obtain ⟨v', w', r1, r2, r3, r4⟩ := Pws.push (v := v) (l := []) ⟨ownsRow_fx (ownsRow_fx hown (Fx.of_below (S := fun _ => False) e2) (fun _ _ h => h)) (Fx.of_below (S := fun _ => False) eW) (fun _ _ h => h), fun y hy => by cases hy⟩ (by decide) ⟨num, cutV u 0 (pgB num fill).length, pgB num fill⟩ qs 1 bq' ⟨hx2.1.below eW, hx2.2⟩ (fun y hy k hk e => by
        rw [List.nil_append, List.mem_singleton] at hy
        rw [hy] at e
        have := o2.base k (cut_own e)
        have := ownsRow_lt hown k hk
        omega) 72
      exact ⟨v', w', r1, ⟨r2, fun k hk => (r4 k hk).elim (fun e => fi k e) (fun e => Nat.le_trans e02.size (Nat.le_trans eW.size e))⟩, below_of_new (e02.trans (eW.mono e02.size)) r3 (fun k hk => fi k hk), Nat.le_trans eW.size r3.size⟩) ?_
    rintro vr ⟨_, _, _⟩
    first | refine ZE.assign rfl rfl rfl rfl sz0 ?_
    rintro w9 ⟨p9, e9⟩
    refine pn_block ?_
    refine EW.on ?_
    refine EW.region ?_
    first | refine WL.move rfl rfl rfl ?_
    refine WL.bin rfl rfl rfl rfl (int_add (c := ((1 : Nat) : Int)) (by decide) _ _ _) ?_
    first | refine WL.assign rfl rfl rfl ?_
    refine WL.done ?_
    refine EW.again (E := liE (.slice (some ⟨g, 0, none⟩) 1 1)) (R := LiR w num fill) (m := fun x => 1 - x.1) (x := (0, v)) (1, vr) [0, 1, 5, 6] rfl ⟨e9.1, p9.2, .inr ⟨rfl, _, p9.1, fun k hk => by
        have h1 := o2.base k (cut_own hk)
        have h2 := (o2.lt (cut_own hk)).1
        exact ⟨Nat.le_trans ei.size h1, Nat.lt_of_lt_of_le h2 e9.2⟩⟩⟩ (by show 1 - 1 < 1 - 0; decide)
  · refine EW.region ?_
    first | refine WL.move rfl rfl rfl ?_
    first | refine WL.move rfl rfl rfl ?_
    refine WL.len rfl rfl rfl (len76 _ _ _ _ _) ?_
    refine WL.bin rfl rfl rfl rfl (int_lt_f (by decide) _ _ _) ?_
    first | refine WL.move rfl rfl rfl ?_
    first | refine WL.move rfl rfl rfl ?_ | refine WL.skip _ rfl rfl rfl ?_
    first | refine WL.bin rfl rfl rfl rfl (int_lt_t (by decide) _ _ _) ?_ | refine WL.skip _ rfl rfl rfl ?_
    first | refine WL.pick rfl rfl rfl rfl ?_
    refine WL.done ?_
    refine EW.on ?_
    refine EW.cond_f rfl ?_
    refine EW.exit ?_
    refine px_then ?_
    refine px_then ?_
    refine px_block ?_
    refine EW.on ?_
    refine EW.seq ?_
    refine EW.region ?_
    first | refine WL.move rfl rfl rfl ?_
    first | refine WL.assign rfl rfl rfl ?_
    refine WL.done ?_
    refine EW.on ?_
    refine EW.ret ?_
    exact EW.returns Try.results37 rfl ⟨v, vb, rfl, pw, ei, hvb⟩
end Go.Proofs.Ythlpfpggjkocmaa
