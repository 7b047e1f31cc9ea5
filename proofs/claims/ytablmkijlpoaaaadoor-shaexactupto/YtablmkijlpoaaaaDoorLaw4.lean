import Derived.Test.YtablmkijlpoaaaaDoorAwk
import Derived.Test.YtablmkijlpoaaaaDoorRegH
import Derived.Lib.SlBytesConst
namespace Go.Proofs.YtablmkijlpoaaaaDoor
open Go.RowKit

/-- 'make([]byte, l)'. -/
theorem wpList_mkB {ops : Array Oper} {rest : List Oper} {o : Oper} {a : Act} {w : World} {Q : Exit → Act → World → Prop} (hgd : o.guard = none) (x y : Operand) (ho : o.op = .makeSlice 27 x y) (l : Nat) (li : Int) (hli : li = l)
    (hx : a.eval x = .int .i64 li) (hy : a.eval y = .int .i64 li) (hc : l ≤ 16777216) (g : Nat) (hg : g = w.heap.size)
    (h : wpList Tryd.prog ops Q rest (a.put o.dst (.slice (some ⟨g, 0, none⟩) l l)) (w.alloc (.cells ((List.replicate l 0).map byt).toArray 5))) : wpList Tryd.prog ops Q (o :: rest) a w := by
  subst hli hg
  obtain ⟨i0, hi, hz0, hz1, hz2⟩ := info_parts Tryd.info5
  have hrun := run_makeSlice (P := Tryd.prog) w 27 5 i0 (.int .u8 0) Tryd.underlying27 hi hz0 .i64 .i64 l l (by omega) (by omega) (by rw [hz1]; simpa using hc) (by rw [hz2]; omega) (by omega)
  rw [hz1, Int.toNat_natCast, Nat.mul_one, made_zeros] at hrun
  refine wpList_plain hgd fun K hK => ?_
  unfold Oper.wp
  simp only [execOp, ho, hx, hy, Sem.run_bind, hrun, Result.andThen_ok]
  exact hK _ _ h

/-- Bytes of the call's own, at block p. -/
structure Tu (w wx : World) (p : Nat) (L : List UInt8) : Prop where
  bl : Blk wx p (L.map byt) 5
  be : Below w.heap.size w wx
  lp : w.heap.size ≤ p
theorem Tu.set {w wx : World} {p : Nat} {L : List UInt8} (h : Tu w wx p L) (j : Nat) (u : UInt8) : Tu w (wx.setCell ⟨p, j, none⟩ (.int .u8 (u.toNat : Int))) p (L.set j u) :=
  ⟨by rw [← byts_set]; exact h.bl.set j _, h.be.setCell h.lp _, h.lp⟩

theorem has_newsM (W : World) (bs : List UInt8) (fr : Nat × Nat) (n : Nat) (hn : n = W.heap.size) : Has (W.alloc (.cells (bs.map byt).toArray 5 fr)) (.slice (some ⟨n, 0, none⟩) bs.length bs.length) bs := by
  subst hn
  refine .inr ⟨_, _, rfl, Nat.le_refl _, fun i u hu => ?_⟩
  rw [add_plain, cell_of_row _ _ i _ 5 fr (heap_alloc_new W _)]
  simp [hu]

set_option maxHeartbeats 400000 in
set_option maxRecDepth 100000 in
theorem awake_any (w : World) (hK : Kst w) : Calls Tryd.prog 13 #[] w fun e w' => e = .returned (.bool true) ∧ Below w.heap.size w w' := by
  have HK := hide hK
  clear hK
  obtain ⟨D, hD⟩ : ∃ D, jD2 = D := ⟨_, rfl⟩
  have HD : Hid (macOf jK jT = D) := hide (jMac.trans hD)
  have l1 : D.length = 32 := by rw [← hD]; kernel_rfl
  have i42 := info24 D l1
  have L1 := hide l1
  have e0 := hide j0
  have e1 := hide j1
  have e31 := hide j31
  rw [hD] at e0 e1 e31
  clear l1 hD
  have k1 := Lib.run_convert_bytes_const (P := Tryd.prog) w 27 5 #[.int .u8 74, .int .u8 101, .int .u8 102, .int .u8 101] 4 4 Tryd.underlying27 Tryd.underlying5
  have k2 := Lib.run_convert_bytes_const (P := Tryd.prog) (w.alloc (.cells #[.int .u8 74, .int .u8 101, .int .u8 102, .int .u8 101] 5 (4, 5))) 27 5 #[.int .u8 119, .int .u8 104, .int .u8 97, .int .u8 116, .int .u8 32, .int .u8 100, .int .u8 111, .int .u8 32, .int .u8 121, .int .u8 97, .int .u8 32, .int .u8 119, .int .u8 97, .int .u8 110, .int .u8 116, .int .u8 32, .int .u8 102, .int .u8 111, .int .u8 114, .int .u8 32, .int .u8 110, .int .u8 111, .int .u8 116, .int .u8 104, .int .u8 105, .int .u8 110, .int .u8 103, .int .u8 63] 28 28 Tryd.underlying27 Tryd.underlying5
  rw [show (w.alloc (.cells #[.int .u8 74, .int .u8 101, .int .u8 102, .int .u8 101] 5 (4, 5))).heap.size = w.heap.size + 1 by simp] at k2
  have H1 : Hid (Has (w.alloc (.cells #[.int .u8 74, .int .u8 101, .int .u8 102, .int .u8 101] 5 (4, 5))) (.slice (some ⟨w.heap.size, 0, none⟩) 4 4) jK) := has_newsM w jK (4, 5) _ rfl
  have H2 : Hid (Has ((w.alloc (.cells #[.int .u8 74, .int .u8 101, .int .u8 102, .int .u8 101] 5 (4, 5))).alloc (.cells #[.int .u8 119, .int .u8 104, .int .u8 97, .int .u8 116, .int .u8 32, .int .u8 100, .int .u8 111, .int .u8 32, .int .u8 121, .int .u8 97, .int .u8 32, .int .u8 119, .int .u8 97, .int .u8 110, .int .u8 116, .int .u8 32, .int .u8 102, .int .u8 111, .int .u8 114, .int .u8 32, .int .u8 110, .int .u8 111, .int .u8 116, .int .u8 104, .int .u8 105, .int .u8 110, .int .u8 103, .int .u8 63] 5 (28, 29))) (.slice (some ⟨w.heap.size + 1, 0, none⟩) 28 28) jT) := has_newsM (w.alloc (.cells #[.int .u8 74, .int .u8 101, .int .u8 102, .int .u8 101] 5 (4, 5))) jT (28, 29) (w.heap.size + 1) (by simp)
  have H3 := hide (H1.out.below (below_new _ (.cells #[.int .u8 119, .int .u8 104, .int .u8 97, .int .u8 116, .int .u8 32, .int .u8 100, .int .u8 111, .int .u8 32, .int .u8 121, .int .u8 97, .int .u8 32, .int .u8 119, .int .u8 97, .int .u8 110, .int .u8 116, .int .u8 32, .int .u8 102, .int .u8 111, .int .u8 114, .int .u8 32, .int .u8 110, .int .u8 111, .int .u8 116, .int .u8 104, .int .u8 105, .int .u8 110, .int .u8 103, .int .u8 63] 5 (28, 29))))
  have BB : Hid (Below w.heap.size w ((w.alloc (.cells #[.int .u8 74, .int .u8 101, .int .u8 102, .int .u8 101] 5 (4, 5))).alloc (.cells #[.int .u8 119, .int .u8 104, .int .u8 97, .int .u8 116, .int .u8 32, .int .u8 100, .int .u8 111, .int .u8 32, .int .u8 121, .int .u8 97, .int .u8 32, .int .u8 119, .int .u8 97, .int .u8 110, .int .u8 116, .int .u8 32, .int .u8 102, .int .u8 111, .int .u8 114, .int .u8 32, .int .u8 110, .int .u8 111, .int .u8 116, .int .u8 104, .int .u8 105, .int .u8 110, .int .u8 103, .int .u8 63] 5 (28, 29)))) := bel_two w _ _ _ ⟨rfl, rfl, rfl, rfl⟩
  have hz : Hid (w.heap.size + 1 + 1 = ((w.alloc (.cells #[.int .u8 74, .int .u8 101, .int .u8 102, .int .u8 101] 5 (4, 5))).alloc (.cells #[.int .u8 119, .int .u8 104, .int .u8 97, .int .u8 116, .int .u8 32, .int .u8 100, .int .u8 111, .int .u8 32, .int .u8 121, .int .u8 97, .int .u8 32, .int .u8 119, .int .u8 97, .int .u8 110, .int .u8 116, .int .u8 32, .int .u8 102, .int .u8 111, .int .u8 114, .int .u8 32, .int .u8 110, .int .u8 111, .int .u8 116, .int .u8 104, .int .u8 105, .int .u8 110, .int .u8 103, .int .u8 63] 5 (28, 29))).heap.size) := by show _ = _; simp
  go_enter Tryd.func13, Tryd.ntmps13
  go_wp2_with fail
  clear k1 k2
  refine (mac_at _ (w.heap.size + 1 + 1) hz.out (.slice (some ⟨w.heap.size, 0, none⟩) 4 4) jK jT D [(.slice (some ⟨w.heap.size + 1, 0, none⟩) 28 28, jT)] (by simp) HD.out H3.out (one_all H2.out) (HK.out.below BB.out HK.out.lt) (by decide) (by decide) (by simp)).mono ?_
  rintro e w1 ⟨rfl, hb1⟩
  have B1 := hide (BB.out.trans (hb1.mono BB.out.size))
  clear hb1 H1 H2 H3 BB hz
  have BL : Blk ((w1.alloc (.cells (z32.map byt).toArray 42)).setRow w1.heap.size (D.map byt).toArray) w1.heap.size (D.map byt) 42 := (Blk.new w1 _ _).setRow _
  have c0 := (BL.cell 0).trans e0.out
  have c1 := (BL.cell 1).trans e1.out
  have c31 := (BL.cell 31).trans e31.out
  clear BL
  go_wp2_with (first
    | (refine wpList_newAt rfl 42 rfl (z32.map byt) zero24 w1.heap.size rfl ?_)
    | (refine wpList_store_row rfl 42 (.tmp 1) (.tmp 7) rfl w1.heap.size (D.map byt).toArray rfl rfl 42 (z32.map byt).toArray (Blk.new w1 _ _) i42 (by rw [List.size_toArray, List.size_toArray, List.length_map, List.length_map, L1.out]; rfl) (byts_one _) ?_)
    | fail)
  go_ret
  exact ⟨rfl, below_setRow (B1.out.alloc B1.out.size _) _ _ B1.out.size⟩
end Go.Proofs.YtablmkijlpoaaaaDoor
