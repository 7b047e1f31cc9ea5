import Derived.Test.YthfcabhelldokaaFe
import Derived.Test.YthfcabhelldokaaCl
import Derived.Test.YthfcabhelldokaaSc
set_option linter.unusedVariables false
set_option linter.unusedSimpArgs false
namespace Go.Proofs.Ythfcabhelldokaa
open Go.RowKit

theorem fld53_3 (g : Nat) (W : World) : (Instr.fieldAt 53 (.pointer (some ⟨g, 0, none⟩)) 3).run Try.prog W = .ok (.pointer (some ⟨g, 3, none⟩)) W := by go_simp
theorem fld53_4 (g : Nat) (W : World) : (Instr.fieldAt 53 (.pointer (some ⟨g, 0, none⟩)) 4).run Try.prog W = .ok (.pointer (some ⟨g, 4, none⟩)) W := by go_simp
theorem fld53_5 (g : Nat) (W : World) : (Instr.fieldAt 53 (.pointer (some ⟨g, 0, none⟩)) 5).run Try.prog W = .ok (.pointer (some ⟨g, 5, none⟩)) W := by go_simp
/-- A life that goes on: its device runs, unarmed, and the book is of it. -/
structure Rn1 (w W : World) (pv t : Nat) (L : Lay) (vi vl : Value) (gs : List Nat) (D : Dv) : Prop where
  kp : Kp w W pv L vi vl gs D (ims4 D.img) D.pen
  n4 : D.n = 4
  dn : D.down = false
  lf : D.left = 0
  cal : D.calls ≤ t
  few : D.pen.length ≤ t
def Rn (w W : World) (pv t : Nat) : Prop := ∃ L vi vl gs D, Rn1 w W pv t L vi vl gs D
theorem step_loss {W : World} {g : Nat} {s : Stp} (h : Blk W g (stC s) 53) : At W ⟨g, 5, none⟩ (lossC s.vk s.torn s.off) := fun j v hj => by
  rw [add_off, h.cell, ← hj]
  have hj3 : j < 3 := by have := (List.getElem?_eq_some_iff.1 hj).1; simpa [lossC] using this
  match j, hj3 with
  | 0, _ => rfl
  | 1, _ => rfl
  | 2, _ => rfl
theorem ldLoss {W : World} {g : Nat} {s : Stp} (h : Blk W g (stC s) 53) : (Instr.loadAt 38 (.pointer (some ⟨g, 5, none⟩))).run Try.prog W = .ok (.agg (lossC s.vk s.torn s.off).toArray) W := run_loadA (step_loss h) Try.underlying38 rfl (info38 _ _ _)
theorem WL.build2 {P : Program} {n : Nat} {ops : Array Oper} {Q : Exit → Act → World → Prop} {i : Nat} {ty : TypeId} {ps : String} {af : Array Edge} {gd : Option (Nat × Bool)} {r : List Oper} {e : List (Nat × Value)} {w : World} {t : TypeId} {x y : Operand} {u u' v : Value} (hw : wantE ops e ⟨some i, .build t #[(0, x), (1, y)], ty, ps, af, gd⟩ = some true) (hi : decide (i < n) = true) (hx : evE e x = some u) (hy : evE e y = some u') (hr : (Instr.build t #[(0, u), (1, u')]).run P w = .ok v w) (k : WL P n ops Q r ((i, v) :: e) w) : WL P n ops Q (⟨some i, .build t #[(0, x), (1, y)], ty, ps, af, gd⟩ :: r) e w :=
  WL.op i v hw rfl hi (fun a ha => by
    simp only [execOp, List.map_toArray, List.map_cons, List.map_nil, ha.ev hx, ha.ev hy, Sem.run_bind, hr, Result.andThen_ok, Sem.run_pure]) k
def plE (pv t : Nat) : List (Nat × Value) := [(0, .pointer (some ⟨pv, 0, none⟩)), (6, .int .i64 0), (7, .int .i64 (t : Int))]
theorem flush_len (D : Dv) (h : D.ok) : (flushD D).img.length = D.n * 512 := imgT_length (fun _ => 512) D.pen D.img D.n h.len (fun _ => Nat.le_refl _) h.sec D.pen.length (Nat.le_refl _)
theorem imsT_get (img img' : List UInt8) (t k : Nat) (h : k < 4) (ht : ¬ k < t) : (imsT img img' t)[k]? = some (secS img k) := by
  simp only [imsT, List.getElem?_map, List.getElem?_range h, Option.map_some, if_neg ht]
set_option maxRecDepth 100000 in
set_option maxHeartbeats 4000000 in
theorem pl_read {w W : World} {pv t : Nat} {L : Lay} {vi vl : Value} {gs : List Nat} {D : Dv} (h : Rn1 w W pv t L vi vl gs D) (ht : t ≤ 1000) (s : Stp) (hs : s.ok w) (n4k : ¬ s.kind = 4) (n7 : ¬ s.kind = 7) (n8 : ¬ s.kind = 8) (n5 : ¬ s.kind = 5) (n6 : ¬ s.kind = 6) (n1 : s.kind = 1) :
    Calls Try.prog 28 #[.pointer (some ⟨pv, 0, none⟩), .agg (stC s).toArray] W fun e w' => e = .returned (.bool true) ∧ Rn w w' pv (t + 1) := by
  obtain ⟨g0, hg0⟩ : ∃ g, W.heap.size = g := ⟨_, rfl⟩
  have hbox := run_boxR (P := Try.prog) 53 (stC s) W g0 hg0
  have b0 : Blk (W.alloc (.cells (stC s).toArray 53)) g0 (stC s) 53 := Blk.newAt hg0
  have k0 := h.kp.below (below_new W (.cells (stC s).toArray 53))
  have hsz0 : (W.alloc (.cells (stC s).toArray 53)).heap.size = g0 + 1 := by simp [hg0]
  have hLg : ¬ L.F g0 := fun hF => by have := h.kp.mine.dev.lt g0 hF; omega
  have hBg : ¬ bkF pv vi vl gs g0 := fun hF => by have := h.kp.bk.lt g0 hF; omega
  have hwg : w.heap.size ≤ g0 := by rw [← hg0]; exact h.kp.mine.be.size
  obtain ⟨w0, hw0⟩ : ∃ w0, W.alloc (.cells (stC s).toArray 53) = w0 := ⟨_, rfl⟩
  rw [hw0] at hbox b0 k0 hsz0
  clear hw0
  have n4 := h.n4
  have dn := h.dn
  have lf := h.lf
  have cal := h.cal
  have few := h.few
  clear h
  have c0 := (b0.cell 0).trans (show _ = some (.int .i64 s.kind) from rfl)
  have c2 := (b0.cell 2).trans (show _ = some (.int .i64 s.i) from rfl)
  have r0 := (k0.bk.bl.cell 0).trans (show _ = some (.pointer (some ⟨L.p, 0, none⟩)) from rfl)
  have hpk := pick_any s.i 4 (by decide) (by decide) hs.ii w0
  have hplt := pick_lt s.i 4 (by decide)
  obtain ⟨I, hI⟩ : ∃ I, pickN s.i 4 = I := ⟨_, rfl⟩
  rw [hI, show ((4 : Nat) : Int) = 4 from rfl] at hpk
  rw [hI] at hplt
  clear hI
  have hw0s := hs.below k0.mine.be
  have sec := k0.mine.dev.ok.sec
  have hok := k0.mine.dev.ok
  have hi4 : D.img.length = 4 * 512 := by have := hok.len; rw [n4] at this; exact this
  have hr := reads_any k0.mine.dev k0.bk dn n4 (fun i hi => ims4_at _ i hi)
  refine calls_of_args [.pointer (some ⟨pv, 0, none⟩), .agg (stC s).toArray] Try.func28 rfl 176 Try.ntmps28 (by show 2 ≤ 176; decide) ?_
  refine EW.seq ?_
  refine EW.region ?_
  refine WL.box rfl rfl rfl hbox ?_
  first | refine WL.assign rfl rfl rfl ?_
  refine WL.done ?_
  refine EW.on ?_
  refine EW.seq ?_
  refine EW.region ?_
  first | refine WL.field rfl rfl rfl (fld53_2 _ _) ?_
  refine WL.load rfl rfl rfl (ld3 c2) ?_
  refine WL.call [.int .i64 s.i, .int .i64 4] enter9 rfl rfl rfl hpk ?_
  rintro x w3 ⟨rfl, hz⟩
  rw [hz]; clear hz w3
  refine ⟨_, rfl, ?_⟩
  first | refine WL.assign rfl rfl rfl ?_
  refine WL.done ?_
  refine EW.on ?_
  refine EW.seq ?_
  refine EW.seq ?_
  refine EW.region ?_
  first | refine WL.field rfl rfl rfl (fld53_0 _ _) ?_
  refine WL.load rfl rfl rfl (ld3 c0) ?_
  refine WL.done ?_
  refine EW.on ?_
  refine EW.block ?_
  refine EW.seq ?_
  refine EW.region ?_
  refine WL.bin rfl rfl rfl rfl (int_eq_f n4k _ _ _) ?_
  first | refine WL.assign rfl rfl rfl ?_
  refine WL.done ?_
  refine EW.on ?_
  refine EW.cond_f rfl ?_
  refine EW.seq ?_
  refine EW.seq ?_
  refine EW.region ?_
  refine WL.bin rfl rfl rfl rfl (int_eq_f n7 _ _ _) ?_
  first | refine WL.assign rfl rfl rfl ?_
  refine WL.done ?_
  refine EW.on ?_
  refine EW.cond_f rfl ?_
  refine EW.region ?_
  refine WL.bin rfl rfl rfl rfl (int_eq_f n8 _ _ _) ?_
  first | refine WL.assign rfl rfl rfl ?_
  refine WL.done ?_
  refine EW.on ?_
  refine EW.cond_f rfl ?_
  refine EW.seq ?_
  refine EW.seq ?_
  refine EW.region ?_
  refine WL.bin rfl rfl rfl rfl (int_eq_f n5 _ _ _) ?_
  first | refine WL.assign rfl rfl rfl ?_
  refine WL.done ?_
  refine EW.on ?_
  refine EW.cond_f rfl ?_
  refine EW.region ?_
  refine WL.bin rfl rfl rfl rfl (int_eq_f n6 _ _ _) ?_
  first | refine WL.assign rfl rfl rfl ?_
  refine WL.done ?_
  refine EW.on ?_
  refine EW.cond_f rfl ?_
  refine EW.seq ?_
  refine EW.seq ?_
  refine EW.region ?_
  refine WL.bin rfl rfl rfl rfl (int_eq_t n1 _ _ _) ?_
  first | refine WL.assign rfl rfl rfl ?_
  refine WL.done ?_
  refine EW.on ?_
  refine EW.cond_t rfl ?_
  refine EW.skip ?_
  refine EW.on ?_
  refine EW.cond_t rfl ?_
  refine EW.seq ?_
  refine EW.region ?_
  first | refine WL.move rfl rfl rfl ?_
  refine WL.call [.pointer (some ⟨pv, 0, none⟩)] enter29 rfl rfl rfl hr ?_
  rintro x w3 ⟨rfl, be3⟩
  have k3 := k0.below be3
  have hd := durable_law k3.mine.dev k3.bk n4 (fun i hi => ims4_at _ i hi)
  refine ⟨_, rfl, ?_⟩
  first | refine WL.move rfl rfl rfl ?_
  first | refine WL.move rfl rfl rfl ?_ | refine WL.skip _ rfl rfl rfl ?_
  refine WL.call [.pointer (some ⟨pv, 0, none⟩)] enter30 rfl rfl rfl hd ?_
  rintro x w4 ⟨rfl, be4⟩
  refine ⟨_, rfl, ?_⟩
  first | refine WL.pick rfl rfl rfl rfl ?_
  first | refine WL.assign rfl rfl rfl ?_
  refine WL.done ?_
  refine EW.on ?_
  refine EW.ret ?_
  repeat (first | refine pr_then ?_ | refine pr_block ?_)
  exact EW.returns Try.results28 rfl ⟨rfl, L, vi, vl, gs, D, k3.below be4, n4, dn, lf, Nat.le_succ_of_le cal, Nat.le_succ_of_le few⟩
set_option maxRecDepth 100000 in
set_option maxHeartbeats 4000000 in
theorem pl_tell {w W : World} {pv t : Nat} {L : Lay} {vi vl : Value} {gs : List Nat} {D : Dv} (h : Rn1 w W pv t L vi vl gs D) (ht : t ≤ 1000) (s : Stp) (hs : s.ok w) (n4k : ¬ s.kind = 4) (n7 : ¬ s.kind = 7) (n8 : ¬ s.kind = 8) (n5 : ¬ s.kind = 5) (n6 : ¬ s.kind = 6) (n1 : ¬ s.kind = 1) (n9 : s.kind = 9) :
    Calls Try.prog 28 #[.pointer (some ⟨pv, 0, none⟩), .agg (stC s).toArray] W fun e w' => e = .returned (.bool true) ∧ Rn w w' pv (t + 1) := by
  obtain ⟨g0, hg0⟩ : ∃ g, W.heap.size = g := ⟨_, rfl⟩
  have hbox := run_boxR (P := Try.prog) 53 (stC s) W g0 hg0
  have b0 : Blk (W.alloc (.cells (stC s).toArray 53)) g0 (stC s) 53 := Blk.newAt hg0
  have k0 := h.kp.below (below_new W (.cells (stC s).toArray 53))
  have hsz0 : (W.alloc (.cells (stC s).toArray 53)).heap.size = g0 + 1 := by simp [hg0]
  have hLg : ¬ L.F g0 := fun hF => by have := h.kp.mine.dev.lt g0 hF; omega
  have hBg : ¬ bkF pv vi vl gs g0 := fun hF => by have := h.kp.bk.lt g0 hF; omega
  have hwg : w.heap.size ≤ g0 := by rw [← hg0]; exact h.kp.mine.be.size
  obtain ⟨w0, hw0⟩ : ∃ w0, W.alloc (.cells (stC s).toArray 53) = w0 := ⟨_, rfl⟩
  rw [hw0] at hbox b0 k0 hsz0
  clear hw0
  have n4 := h.n4
  have dn := h.dn
  have lf := h.lf
  have cal := h.cal
  have few := h.few
  clear h
  have c0 := (b0.cell 0).trans (show _ = some (.int .i64 s.kind) from rfl)
  have c2 := (b0.cell 2).trans (show _ = some (.int .i64 s.i) from rfl)
  have r0 := (k0.bk.bl.cell 0).trans (show _ = some (.pointer (some ⟨L.p, 0, none⟩)) from rfl)
  have hpk := pick_any s.i 4 (by decide) (by decide) hs.ii w0
  have hplt := pick_lt s.i 4 (by decide)
  obtain ⟨I, hI⟩ : ∃ I, pickN s.i 4 = I := ⟨_, rfl⟩
  rw [hI, show ((4 : Nat) : Int) = 4 from rfl] at hpk
  rw [hI] at hplt
  clear hI
  have hw0s := hs.below k0.mine.be
  have sec := k0.mine.dev.ok.sec
  have hok := k0.mine.dev.ok
  have hi4 : D.img.length = 4 * 512 := by have := hok.len; rw [n4] at this; exact this
  have hr := reads_any k0.mine.dev k0.bk dn n4 (fun i hi => ims4_at _ i hi)
  refine calls_of_args [.pointer (some ⟨pv, 0, none⟩), .agg (stC s).toArray] Try.func28 rfl 176 Try.ntmps28 (by show 2 ≤ 176; decide) ?_
  refine EW.seq ?_
  refine EW.region ?_
  refine WL.box rfl rfl rfl hbox ?_
  first | refine WL.assign rfl rfl rfl ?_
  refine WL.done ?_
  refine EW.on ?_
  refine EW.seq ?_
  refine EW.region ?_
  first | refine WL.field rfl rfl rfl (fld53_2 _ _) ?_
  refine WL.load rfl rfl rfl (ld3 c2) ?_
  refine WL.call [.int .i64 s.i, .int .i64 4] enter9 rfl rfl rfl hpk ?_
  rintro x w3 ⟨rfl, hz⟩
  rw [hz]; clear hz w3
  refine ⟨_, rfl, ?_⟩
  first | refine WL.assign rfl rfl rfl ?_
  refine WL.done ?_
  refine EW.on ?_
  refine EW.seq ?_
  refine EW.seq ?_
  refine EW.region ?_
  first | refine WL.field rfl rfl rfl (fld53_0 _ _) ?_
  refine WL.load rfl rfl rfl (ld3 c0) ?_
  refine WL.done ?_
  refine EW.on ?_
  refine EW.block ?_
  refine EW.seq ?_
  refine EW.region ?_
  refine WL.bin rfl rfl rfl rfl (int_eq_f n4k _ _ _) ?_
  first | refine WL.assign rfl rfl rfl ?_
  refine WL.done ?_
  refine EW.on ?_
  refine EW.cond_f rfl ?_
  refine EW.seq ?_
  refine EW.seq ?_
  refine EW.region ?_
  refine WL.bin rfl rfl rfl rfl (int_eq_f n7 _ _ _) ?_
  first | refine WL.assign rfl rfl rfl ?_
  refine WL.done ?_
  refine EW.on ?_
  refine EW.cond_f rfl ?_
  refine EW.region ?_
  refine WL.bin rfl rfl rfl rfl (int_eq_f n8 _ _ _) ?_
  first | refine WL.assign rfl rfl rfl ?_
  refine WL.done ?_
  refine EW.on ?_
  refine EW.cond_f rfl ?_
  refine EW.seq ?_
  refine EW.seq ?_
  refine EW.region ?_
  refine WL.bin rfl rfl rfl rfl (int_eq_f n5 _ _ _) ?_
  first | refine WL.assign rfl rfl rfl ?_
  refine WL.done ?_
  refine EW.on ?_
  refine EW.cond_f rfl ?_
  refine EW.region ?_
  refine WL.bin rfl rfl rfl rfl (int_eq_f n6 _ _ _) ?_
  first | refine WL.assign rfl rfl rfl ?_
  refine WL.done ?_
  refine EW.on ?_
  refine EW.cond_f rfl ?_
  refine EW.seq ?_
  refine EW.seq ?_
  refine EW.region ?_
  refine WL.bin rfl rfl rfl rfl (int_eq_f n1 _ _ _) ?_
  first | refine WL.assign rfl rfl rfl ?_
  refine WL.done ?_
  refine EW.on ?_
  refine EW.cond_f rfl ?_
  refine EW.region ?_
  refine WL.bin rfl rfl rfl rfl (int_eq_t n9 _ _ _) ?_
  first | refine WL.assign rfl rfl rfl ?_
  refine WL.done ?_
  refine EW.on ?_
  refine EW.cond_t rfl ?_
  refine EW.seq ?_
  refine EW.region ?_
  first | refine WL.move rfl rfl rfl ?_
  refine WL.call [.pointer (some ⟨pv, 0, none⟩)] enter29 rfl rfl rfl hr ?_
  rintro x w3 ⟨rfl, be3⟩
  have k3 := k0.below be3
  have hd := durable_law k3.mine.dev k3.bk n4 (fun i hi => ims4_at _ i hi)
  refine ⟨_, rfl, ?_⟩
  first | refine WL.move rfl rfl rfl ?_
  first | refine WL.move rfl rfl rfl ?_ | refine WL.skip _ rfl rfl rfl ?_
  refine WL.call [.pointer (some ⟨pv, 0, none⟩)] enter30 rfl rfl rfl hd ?_
  rintro x w4 ⟨rfl, be4⟩
  refine ⟨_, rfl, ?_⟩
  first | refine WL.pick rfl rfl rfl rfl ?_
  first | refine WL.assign rfl rfl rfl ?_
  refine WL.done ?_
  refine EW.on ?_
  refine EW.ret ?_
  repeat (first | refine pr_then ?_ | refine pr_block ?_)
  exact EW.returns Try.results28 rfl ⟨rfl, L, vi, vl, gs, D, k3.below be4, n4, dn, lf, Nat.le_succ_of_le cal, Nat.le_succ_of_le few⟩
set_option maxRecDepth 100000 in
set_option maxHeartbeats 4000000 in
theorem pl_flush {w W : World} {pv t : Nat} {L : Lay} {vi vl : Value} {gs : List Nat} {D : Dv} (h : Rn1 w W pv t L vi vl gs D) (ht : t ≤ 1000) (s : Stp) (hs : s.ok w) (n4k : s.kind = 4) :
    Calls Try.prog 28 #[.pointer (some ⟨pv, 0, none⟩), .agg (stC s).toArray] W fun e w' => e = .returned (.bool true) ∧ Rn w w' pv (t + 1) := by
  obtain ⟨g0, hg0⟩ : ∃ g, W.heap.size = g := ⟨_, rfl⟩
  have hbox := run_boxR (P := Try.prog) 53 (stC s) W g0 hg0
  have b0 : Blk (W.alloc (.cells (stC s).toArray 53)) g0 (stC s) 53 := Blk.newAt hg0
  have k0 := h.kp.below (below_new W (.cells (stC s).toArray 53))
  have hsz0 : (W.alloc (.cells (stC s).toArray 53)).heap.size = g0 + 1 := by simp [hg0]
  have hLg : ¬ L.F g0 := fun hF => by have := h.kp.mine.dev.lt g0 hF; omega
  have hBg : ¬ bkF pv vi vl gs g0 := fun hF => by have := h.kp.bk.lt g0 hF; omega
  have hwg : w.heap.size ≤ g0 := by rw [← hg0]; exact h.kp.mine.be.size
  obtain ⟨w0, hw0⟩ : ∃ w0, W.alloc (.cells (stC s).toArray 53) = w0 := ⟨_, rfl⟩
  rw [hw0] at hbox b0 k0 hsz0
  clear hw0
  have n4 := h.n4
  have dn := h.dn
  have lf := h.lf
  have cal := h.cal
  have few := h.few
  clear h
  have c0 := (b0.cell 0).trans (show _ = some (.int .i64 s.kind) from rfl)
  have c2 := (b0.cell 2).trans (show _ = some (.int .i64 s.i) from rfl)
  have r0 := (k0.bk.bl.cell 0).trans (show _ = some (.pointer (some ⟨L.p, 0, none⟩)) from rfl)
  have hpk := pick_any s.i 4 (by decide) (by decide) hs.ii w0
  have hplt := pick_lt s.i 4 (by decide)
  obtain ⟨I, hI⟩ : ∃ I, pickN s.i 4 = I := ⟨_, rfl⟩
  rw [hI, show ((4 : Nat) : Int) = 4 from rfl] at hpk
  rw [hI] at hplt
  clear hI
  have hw0s := hs.below k0.mine.be
  have sec := k0.mine.dev.ok.sec
  have hok := k0.mine.dev.ok
  have hi4 : D.img.length = 4 * 512 := by have := hok.len; rw [n4] at this; exact this
  have hfl := flush_ok k0.mine.dev dn (by omega) (by omega) (by omega)
  refine calls_of_args [.pointer (some ⟨pv, 0, none⟩), .agg (stC s).toArray] Try.func28 rfl 176 Try.ntmps28 (by show 2 ≤ 176; decide) ?_
  refine EW.seq ?_
  refine EW.region ?_
  refine WL.box rfl rfl rfl hbox ?_
  first | refine WL.assign rfl rfl rfl ?_
  refine WL.done ?_
  refine EW.on ?_
  refine EW.seq ?_
  refine EW.region ?_
  first | refine WL.field rfl rfl rfl (fld53_2 _ _) ?_
  refine WL.load rfl rfl rfl (ld3 c2) ?_
  refine WL.call [.int .i64 s.i, .int .i64 4] enter9 rfl rfl rfl hpk ?_
  rintro x w3 ⟨rfl, hz⟩
  rw [hz]; clear hz w3
  refine ⟨_, rfl, ?_⟩
  first | refine WL.assign rfl rfl rfl ?_
  refine WL.done ?_
  refine EW.on ?_
  refine EW.seq ?_
  refine EW.seq ?_
  refine EW.region ?_
  first | refine WL.field rfl rfl rfl (fld53_0 _ _) ?_
  refine WL.load rfl rfl rfl (ld3 c0) ?_
  refine WL.done ?_
  refine EW.on ?_
  refine EW.block ?_
  refine EW.seq ?_
  refine EW.region ?_
  refine WL.bin rfl rfl rfl rfl (int_eq_t n4k _ _ _) ?_
  first | refine WL.assign rfl rfl rfl ?_
  refine WL.done ?_
  refine EW.on ?_
  refine EW.cond_t rfl ?_
  refine EW.seq ?_
  refine EW.region ?_
  first | refine WL.move rfl rfl rfl ?_
  first | refine WL.nilc rfl rfl rfl ?_
  first | refine WL.field rfl rfl rfl (fld32_0 _ _) ?_
  refine WL.load rfl rfl rfl (ld28 r0) ?_
  refine WL.call [.pointer (some ⟨L.p, 0, none⟩)] enter26 rfl rfl rfl hfl ?_
  rintro x w3 ⟨rfl, ht3, hd3⟩
  refine ⟨_, rfl, ?_⟩
  first | refine WL.assign rfl rfl rfl ?_
  refine WL.done ?_
  have k3 := k0.turn ht3 hd3
  have hpl : (dropL L).p = L.p := rfl
  refine EW.on ?_
  refine EW.seq ?_
  refine EW.seq ?_
  refine EW.region ?_
  first | refine WL.assign rfl rfl rfl ?_
  refine WL.done ?_
  refine EW.on ?_
  refine EW.block ?_
  refine EW.loop (plE pv) (fun t w' => t ≤ 4 ∧ Kp w w' pv (dropL L) vi vl gs (flushD D) (imsT D.img (flushD D).img t) D.pen) (fun t => 4 - t) 0 [0, 6, 7] rfl ⟨Nat.zero_le _, by rw [imsT_zero]; exact k3⟩ ?_
  rintro u wu ⟨hu4, hk⟩
  show EW _ _ _ _ [(0, .pointer (some ⟨pv, 0, none⟩)), (6, .int .i64 0), (7, .int .i64 (u : Int))] _
  by_cases hl : u < 4
  · have z1 : (u : Int) < 4 := Int.ofNat_lt.2 hl
    have tn := tn4 u hl
    have hkd := hk.below (below_drawn wu)
    obtain ⟨wd, hwd⟩ : ∃ wd, { wu with drawn := wu.drawn + 1 } = wd := ⟨_, rfl⟩
    rw [hwd] at hkd
    have hla := last_any hkd.bk u (secS D.img u) (imsT_get _ _ u u hl (Nat.lt_irrefl _))
    rw [← flush_secS D hok u (by rw [n4]; exact hl), show imgT (fun _ => 512) D.pen D.img D.pen.length = (flushD D).img from rfl] at hla
    obtain ⟨gi, old, hgi, hix, hci, hfz, hks⟩ := hkd.setIm u hl (secS (flushD D).img u)
    rw [imsT_set _ _ u hl] at hks
    have hcell : ∀ V, V = wd ∨ V = wd.setCell ⟨gi, u, none⟩ (.string (secS (flushD D).img u)) → V.cell? ⟨pv, 1, none⟩ = some vi := fun V hV => by
      rcases hV with rfl | rfl
      · exact (hkd.bk.bl.cell 1).trans rfl
      · exact (hks.bk.bl.cell 1).trans rfl
    refine EW.seq ?_
    refine EW.seq ?_
    refine EW.region ?_
    first | refine WL.move rfl rfl rfl ?_
    first | refine WL.bin rfl rfl rfl rfl (int_lt_t ‹_› _ _ _) ?_ | refine WL.bin rfl rfl rfl rfl (int_lt_f ‹_› _ _ _) ?_
    refine WL.done ?_
    refine EW.on ?_
    refine EW.cond_t rfl ?_
    refine EW.skip ?_
    refine EW.on ?_
    refine EW.seq ?_
    refine EW.block ?_
    refine EW.ord [(0, false), (1, false), (2, false), (3, false), (4, false), (5, false), (6, false), (7, true), (8, false), (9, true)] (fun V => V = wd ∨ V = wd.setCell ⟨gi, u, none⟩ (.string (secS (flushD D).img u))) (by kernel_rfl) rfl (by kernel_rfl) (.inl hwd) ?_
    rw [hwd]
    simp only [ordOps, List.getD_cons_zero, List.getD_cons_succ]
    refine OE.move rfl rfl rfl ?_
    refine OE.nilc rfl rfl rfl ?_
    refine OE.field rfl rfl rfl (fun V => fld32_1 _ V) ?_
    refine OE.load rfl rfl rfl (fun V hV => ld29 (hcell V hV)) ?_
    refine OE.move rfl rfl rfl ?_
    refine OE.move rfl rfl rfl ?_
    refine OE.move rfl rfl rfl ?_
    refine OE.callW [.pointer (some ⟨pv, 0, none⟩), .int .i64 (u : Int)] _ (fun V => V = wd ∨ V = wd.setCell ⟨gi, u, none⟩ (.string (secS (flushD D).img u))) enter45 rfl rfl rfl (.inl rfl) (fun V h => h) hla ?_
    refine OE.index rfl rfl rfl rfl hix ?_
    refine OE.store (fun V => V = wd ∨ V = wd.setCell ⟨gi, u, none⟩ (.string (secS (flushD D).img u))) rfl (.inr rfl) (fun V h => h) rfl rfl (st9 hci hfz) ?_
    refine fun a ha W5 hW => ?_
    rw [hW]
    revert a ha
    refine pn_block ?_
    refine EW.on ?_
    refine EW.region ?_
    first | refine WL.move rfl rfl rfl ?_
    first | refine WL.bin rfl rfl rfl rfl (int_add ‹_› _ _ _) ?_
    first | refine WL.assign rfl rfl rfl ?_
    refine WL.done ?_
    exact EW.again (u + 1) [0, 6, 7] rfl ⟨hl, hks⟩ (ms4 u hl)
  · have z1 : ¬ (u : Int) < 4 := fun hh => hl (Int.ofNat_lt.1 hh)
    obtain rfl : u = 4 := Nat.le_antisymm hu4 (Nat.le_of_not_lt hl)
    rw [imsT_four] at hk
    have c2 := (hk.bk.bl.cell 2).trans (show _ = some vl from rfl)
    have f2 := hk.bk.bl.frozen 2
    have hN := hk.noList
    obtain ⟨w6, hw6⟩ : ∃ w6, wu.setCell ⟨pv, 2, none⟩ (.slice none 0 0) = w6 := ⟨_, rfl⟩
    rw [hw6] at hN
    have d0 := (hN.bk.bl.cell 0).trans (show _ = some (.pointer (some ⟨L.p, 0, none⟩)) from rfl)
    have hca := cache_any hN.mine.dev
    rw [show (flushD D).pen = [] from rfl] at hca
    refine EW.seq ?_
    refine EW.seq ?_
    refine EW.region ?_
    first | refine WL.move rfl rfl rfl ?_
    first | refine WL.bin rfl rfl rfl rfl (int_lt_t ‹_› _ _ _) ?_ | refine WL.bin rfl rfl rfl rfl (int_lt_f ‹_› _ _ _) ?_
    refine WL.done ?_
    refine EW.on ?_
    refine EW.cond_f rfl ?_
    refine EW.exit ?_
    repeat refine px_then ?_
    refine px_block ?_
    refine EW.on ?_
    refine EW.seq ?_
    refine EW.region ?_
    first | refine WL.move rfl rfl rfl ?_
    first | refine WL.nilc rfl rfl rfl ?_
    first | refine WL.field rfl rfl rfl (fld32_2 _ _) ?_
    refine WL.store rfl rfl rfl (st30 c2 f2) ?_
    refine WL.done ?_
    rw [hw6]
    refine EW.on ?_
    refine EW.seq ?_
    refine EW.region ?_
    first | refine WL.move rfl rfl rfl ?_
    refine WL.bin rfl rfl rfl rfl (int_eq_t rfl _ _ _) ?_
    first | refine WL.move rfl rfl rfl ?_
    first | refine WL.move rfl rfl rfl ?_ | refine WL.skip _ rfl rfl rfl ?_
    first | refine WL.nilc rfl rfl rfl ?_ | refine WL.skip _ rfl rfl rfl ?_
    first | refine WL.field rfl rfl rfl (fld32_0 _ _) ?_ | refine WL.skip _ rfl rfl rfl ?_
    refine WL.load rfl rfl rfl (ld28 d0) ?_
    refine WL.call [.pointer (some ⟨L.p, 0, none⟩)] enter24 rfl rfl rfl hca ?_
    rintro x w7 ⟨rfl, be7, _, _⟩
    have k7 := hN.below be7
    have hdu := durable_law (D := flushD D) k7.mine.dev k7.bk n4 (fun i hi => ims4_at _ i hi)
    refine ⟨_, rfl, ?_⟩
    refine WL.len rfl rfl rfl (len30 _ _ _ _ _) ?_
    refine WL.bin rfl rfl rfl rfl (int_eq_t rfl _ _ _) ?_
    first | refine WL.pick rfl rfl rfl rfl ?_
    first | refine WL.move rfl rfl rfl ?_
    first | refine WL.move rfl rfl rfl ?_ | refine WL.skip _ rfl rfl rfl ?_
    refine WL.call [.pointer (some ⟨pv, 0, none⟩)] enter30 rfl rfl rfl hdu ?_
    rintro x w8 ⟨rfl, be8⟩
    refine ⟨_, rfl, ?_⟩
    first | refine WL.pick rfl rfl rfl rfl ?_
    first | refine WL.assign rfl rfl rfl ?_
    refine WL.done ?_
    refine EW.on ?_
    refine EW.ret ?_
    repeat (first | refine pr_then ?_ | refine pr_block ?_)
    exact EW.returns Try.results28 rfl ⟨rfl, dropL L, vi, .slice none 0 0, [], flushD D, k7.below be8, n4, dn, by show D.left - 1 = 0; omega, by show D.calls + 1 ≤ t + 1; omega, Nat.zero_le _⟩
end Go.Proofs.Ythfcabhelldokaa
