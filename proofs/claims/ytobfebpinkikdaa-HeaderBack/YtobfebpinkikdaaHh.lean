import Derived.Test.YtobfebpinkikdaaHg
set_option linter.unusedVariables false
set_option linter.unusedSimpArgs false
namespace Go.Proofs.Ytobfebpinkikdaa
open Go.RowKit

theorem hlHas {w : World} {q1 : Nat} {h : Hl} {t : TypeId} (bx : Blk w q1 h.cs t) (kh : h.ok) : Has w (.slice (some ⟨q1, 0, none⟩) 32 32) h.id ∧ Has w (.slice (some ⟨q1, 32, none⟩) 32 32) h.once := by
  constructor
  · have := bx.has (a := []) (K := h.id) (b := h.once.map byt ++ [u32v h.pre]) (o := 0) rfl rfl 32 (by rw [kh.i]; exact Nat.le_refl _)
    rw [kh.i] at this
    exact this
  · have := bx.has (a := h.id.map byt) (K := h.once) (b := [u32v h.pre]) (o := 32) rfl (by simp [kh.i]) 32 (by rw [kh.o]; exact Nat.le_refl _)
    rw [kh.o] at this
    exact this
set_option maxRecDepth 100000 in
set_option maxHeartbeats 1000000 in
theorem start_any (M : Nat) (hM : M ≤ 1048576) (b q : Nat) (v : Value) (bs : List UInt8) (x : Nat) (hx : x < 256) (w : World) (hw : Wr M w b q v bs) (hbw : b ≤ w.heap.size) (hl : bs.length + 2 ≤ M) : Calls Try.prog 21 #[.pointer (some ⟨q, 0, none⟩), .int .i64 (x : Int)] w (WrS M w b q v (bs ++ [1, UInt8.ofNat x])) := by
  refine calls_of_args [.pointer (some ⟨q, 0, none⟩), .int .i64 (x : Int)] Try.func21 rfl 9 Try.ntmps21 (by show 2 ≤ 9; decide) ?_
  refine EW.seq ?_
  refine EW.region ?_
  first | refine WL.move rfl rfl rfl ?_
  refine WL.call [.pointer (some ⟨q, 0, none⟩), .int .i64 1] enter46 rfl rfl rfl (u8_any M hM b q v _ 1 (by decide) _ hw (by omega) (by first | omega | (simp; omega))) ?_
  rintro _ w2 ⟨rfl, v2, wr2, f2, n2⟩
  refine ⟨_, rfl, ?_⟩
  refine WL.done ?_
  refine EW.on ?_
  refine EW.region ?_
  first | refine WL.move rfl rfl rfl ?_
  first | refine WL.move rfl rfl rfl ?_
  refine WL.call [.pointer (some ⟨q, 0, none⟩), .int .i64 (x : Int)] enter46 rfl rfl rfl (u8_any M hM b q v2 _ x hx _ wr2 (by have := f2.size; omega) (by first | omega | (simp; omega))) ?_
  rintro _ w3 ⟨rfl, v3, wr3, f3, n3⟩
  refine ⟨_, rfl, ?_⟩
  refine WL.done ?_
  exact EW.falls Try.results21 ⟨rfl, v3, by rw [show bs ++ [1, UInt8.ofNat x] = bs ++ [UInt8.ofNat 1] ++ [UInt8.ofNat x] from by simp]; exact wr3, wr_trans f2 n2 f3 n3⟩
set_option maxRecDepth 100000 in
set_option maxHeartbeats 1000000 in
theorem wrHello_any (M : Nat) (hM : M ≤ 1048576) (b q : Nat) (v : Value) (bs : List UInt8) (h : Hl) (kh : h.ok) (w : World) (hw : Wr M w b q v bs) (hbw : b ≤ w.heap.size) (hl : bs.length + 68 ≤ M) : Calls Try.prog 22 #[.pointer (some ⟨q, 0, none⟩), h.v] w (WrS M w b q v (bs ++ encL h)) := by
  obtain ⟨w1, q1, r1, bx1, e1, hq1⟩ := box_any 26 h.cs w
  have l1 := e1.size
  have wr1 := hw.below e1
  have off_x : ∀ o n c ys k, v.ownBlock = some k → Off (.slice (some ⟨q1, o, none⟩) n c) ys k := fun o n c ys k hk => .inr fun e => by
    have := (hw.ob.lt hk).1
    simp only [Value.ownBlock, Option.some.injEq] at e
    omega
  refine calls_of_args [.pointer (some ⟨q, 0, none⟩), h.v] Try.func22 rfl 15 Try.ntmps22 (by show 2 ≤ 15; decide) ?_
  refine EW.seq ?_
  refine EW.region ?_
  refine WL.box rfl rfl rfl r1 ?_
  refine WL.done ?_
  refine EW.on ?_
  refine EW.seq ?_
  refine EW.ordB [(0, 0, 0), (1, 0, 0), (2, 0, 0), (3, 0, 0), (4, 0, 0), (5, 1, 1), (6, 1, 0)] (by kernel_rfl) rfl (by kernel_rfl) ?_
  simp only [opsZ, List.getD_cons_zero, List.getD_cons_succ]
  first | refine ZE.move rfl rfl rfl rfl sz0 ?_
  refine ZE.field rfl rfl rfl rfl sz0 (fun W => f26_0 q1 0 W) ?_
  refine ZE.slice0 rfl rfl rfl rfl sz0 (fun W => sl23 q1 _ W) ?_
  refine ZE.field rfl rfl rfl rfl sz0 (fun W => f26_1 q1 0 W) ?_
  refine ZE.slice0 rfl rfl rfl rfl sz0 (fun W => sl23 q1 _ W) ?_
  refine ZE.bsl [(0, .slice (some ⟨q1, 0, none⟩) 32 32), (1, .slice (some ⟨q1, 32, none⟩) 32 32)] (fun v W' => ∃ W, Below w1.heap.size w1 W ∧ v = .slice (some ⟨W.heap.size, 0, none⟩) 2 2 ∧ W' = W.alloc (.cells [.slice (some ⟨q1, 0, none⟩) 32 32, .slice (some ⟨q1, 32, none⟩) 32 32].toArray 31)) rfl rfl rfl (fun v W' ⟨W, h, _, e⟩ => .inr (by rw [e]; exact h.trans ((below_new _ _).mono h.size))) (fun W hW => ⟨_, _, bsl74_2 _ _ ⟨_, _, _, rfl⟩ ⟨_, _, _, rfl⟩ W, W, hW, rfl, rfl⟩) ?_
  rintro vb ⟨_, Wq, hWq, rfl, _⟩
  refine ZE.callR [.pointer (some ⟨q, 0, none⟩), .slice (some ⟨Wq.heap.size, 0, none⟩) 2 2] (fun u W => u = .tuple #[] ∧ ∃ v', Wr M W b q v' (bs ++ (h.id ++ h.once)) ∧ Fx (fun k => k = q ∨ v.ownBlock = some k) w1 W ∧ Nw w1 v v') enter23 rfl rfl rfl (fun _ _ _ => .inl rfl) ?_ ?_
  · rintro _ ⟨W, hW, hv, rfl⟩
    have hs : W.heap.size = Wq.heap.size := by
      simp only [Value.slice.injEq, Option.some.injEq, Addr.mk.injEq, and_true, true_and] at hv
      exact hv.symm
    have hbW := bx1.on hW
    rw [← hs]
    refine (fixed2 M hM b q v bs _ _ h.id h.once W (wr1.below hW) (by have := hW.size; omega) (hlHas hbW kh).1 (hlHas hbW kh).2 (off_x _ _ _ _) (off_x _ _ _ _) (by rw [kh.i, kh.o]; omega) _ rfl).mono ?_
    rintro e W2 ⟨rfl, v', g1, g2, g3⟩
    exact ⟨_, rfl, rfl, v', g1, wr_after (b := b) hW g2 g3⟩
  rintro vr ⟨Wr2, rfl, _⟩
  rintro w2 ⟨_, v2, wr2, f2, n2⟩
  have bx2 := bx1.fx f2 (wr1.apart bx1 (by decide) (by decide))
  refine EW.on ?_
  refine EW.region ?_
  first | refine WL.move rfl rfl rfl ?_
  refine WL.field rfl rfl rfl (f26_2 q1 0 _) ?_
  refine WL.load rfl rfl rfl (ldHlPre bx2 kh) ?_
  refine WL.call [.pointer (some ⟨q, 0, none⟩), u32v h.pre] enter35 rfl rfl rfl (u32_any M hM b q v2 _ h.pre _ wr2 (by have := f2.size; omega) (by simp [kh.i, kh.o]; omega)) ?_
  rintro _ w3 ⟨rfl, v3, wr3, f3, n3⟩
  refine ⟨_, rfl, ?_⟩
  refine WL.done ?_
  obtain ⟨fa, na⟩ := wr_trans f2 n2 f3 n3
  exact EW.falls Try.results22 ⟨rfl, v3, by simpa [encL] using wr3, wr_after (b := b) e1 fa na⟩
end Go.Proofs.Ytobfebpinkikdaa
