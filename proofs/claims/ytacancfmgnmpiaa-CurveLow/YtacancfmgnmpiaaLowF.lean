import Derived.Test.YtacancfmgnmpiaaFormsW
import Derived.Test.YtacancfmgnmpiaaPr
set_option linter.unusedVariables false
set_option linter.unusedSimpArgs false
namespace Go.Proofs.Ytacancfmgnmpiaa
open Go.RowKit

section
variable {P : Program} {ops : Array Oper} {Q : Exit → Act → World → Prop} {S : World → Prop}
theorem uni_buildL {o : Oper} {a : Act} (hw : Region.wanted o (yielded ops a.tmps) = true) (t : TypeId) (xs : List (Nat × Operand)) (ho : o.op = .build t xs.toArray) (ys : List (Nat × Value)) (hy : xs.map (fun p => (p.1, a.eval p.2)) = ys) (v : Value) (h : ∀ W, (Instr.build t ys.toArray).run P W = .ok v W) : Uni P ops S o v a := by
  refine .inl ⟨hw, .inl fun W _ => ?_⟩
  unfold execOp
  simp only [ho, List.map_toArray]
  rw [hy]
  simp only [Sem.run_bind, h W, Result.andThen_ok, Sem.run_pure]
theorem lst_run {o : Oper} {rest : List Oper} {a a' : Act} {w w' : World} (hg : o.guard = none) (op : Op) (ho : o.op = op) (v : Value) (hrun : ∀ o' : Oper, o'.op = op → (execOp a.eval o').run P w = .ok (.value v) w') (ha : a.put o.dst v = a') (k : wpList P ops Q rest a' w') : wpList P ops Q (o :: rest) a w := by
  have hwa : Region.wanted o (yielded ops a.tmps) = true := by simp [Region.wanted, hg]
  unfold wpList
  simp only [hwa, if_true, Oper.wp, hrun o ho, Oper.upon]
  rw [ha]
  exact .inl k
theorem lst_bld {o : Oper} {rest : List Oper} {a a' : Act} {w w' : World} (hg : o.guard = none) (t : TypeId) (len : Nat) (xs : List (Nat × Operand)) (ho : o.op = .buildSlice t len xs.toArray) (ys : List (Nat × Value)) (hy : xs.map (fun p => (p.1, a.eval p.2)) = ys) (v : Value) (h : (Instr.buildSlice t len ys.toArray).run P w = .ok v w') (ha : a.put o.dst v = a') (k : wpList P ops Q rest a' w') : wpList P ops Q (o :: rest) a w := by
  refine lst_run hg _ ho v (fun o' ho' => ?_) ha k
  unfold execOp
  simp only [ho', List.map_toArray]
  rw [hy]
  simp only [Sem.run_bind, h, Result.andThen_ok, Sem.run_pure]
end

def eightK : List UInt8 := [224, 235, 122, 124, 59, 65, 184, 174, 22, 86, 227, 250, 241, 159, 196, 106, 218, 9, 141, 235, 156, 50, 177, 253, 134, 98, 5, 22, 95, 73, 184, 0]
def otherK : List UInt8 := [95, 156, 149, 188, 163, 80, 140, 36, 177, 208, 177, 85, 156, 131, 239, 91, 4, 68, 92, 196, 88, 28, 142, 134, 216, 34, 78, 221, 208, 159, 17, 87]
def edK : List UInt8 := [237, 255, 255, 255, 255, 255, 255, 255, 255, 255, 255, 255, 255, 255, 255, 255, 255, 255, 255, 255, 255, 255, 255, 255, 255, 255, 255, 255, 255, 255, 255, 127]
def eeK : List UInt8 := [238, 255, 255, 255, 255, 255, 255, 255, 255, 255, 255, 255, 255, 255, 255, 255, 255, 255, 255, 255, 255, 255, 255, 255, 255, 255, 255, 255, 255, 255, 255, 127]
def lasL : Nat → List UInt8
  | 0 => keyN 236
  | j + 1 => (lasL j).set (j + 1) 255
def lastK : List UInt8 := (lasL 30).set 31 127
theorem las_length : ∀ j, (lasL j).length = 32
  | 0 => keyN_length _
  | j + 1 => by rw [lasL, List.length_set, las_length j]
theorem last_length : lastK.length = 32 := by rw [lastK, List.length_set, las_length]
theorem eight_length : eightK.length = 32 := rfl
theorem other_length : otherK.length = 32 := rfl
theorem ed_length : edK.length = 32 := rfl
theorem ee_length : eeK.length = 32 := rfl
theorem b_eight (W : World) : (Instr.build 24 #[(0, .int .u8 224), (1, .int .u8 235), (2, .int .u8 122), (3, .int .u8 124), (4, .int .u8 59), (5, .int .u8 65), (6, .int .u8 184), (7, .int .u8 174), (8, .int .u8 22), (9, .int .u8 86), (10, .int .u8 227), (11, .int .u8 250), (12, .int .u8 241), (13, .int .u8 159), (14, .int .u8 196), (15, .int .u8 106), (16, .int .u8 218), (17, .int .u8 9), (18, .int .u8 141), (19, .int .u8 235), (20, .int .u8 156), (21, .int .u8 50), (22, .int .u8 177), (23, .int .u8 253), (24, .int .u8 134), (25, .int .u8 98), (26, .int .u8 5), (27, .int .u8 22), (28, .int .u8 95), (29, .int .u8 73), (30, .int .u8 184), (31, .int .u8 0)]).run Try.prog W = .ok (.agg (eightK.map byt).toArray) W := by kernel_rfl
theorem b_other (W : World) : (Instr.build 24 #[(0, .int .u8 95), (1, .int .u8 156), (2, .int .u8 149), (3, .int .u8 188), (4, .int .u8 163), (5, .int .u8 80), (6, .int .u8 140), (7, .int .u8 36), (8, .int .u8 177), (9, .int .u8 208), (10, .int .u8 177), (11, .int .u8 85), (12, .int .u8 156), (13, .int .u8 131), (14, .int .u8 239), (15, .int .u8 91), (16, .int .u8 4), (17, .int .u8 68), (18, .int .u8 92), (19, .int .u8 196), (20, .int .u8 88), (21, .int .u8 28), (22, .int .u8 142), (23, .int .u8 134), (24, .int .u8 216), (25, .int .u8 34), (26, .int .u8 78), (27, .int .u8 221), (28, .int .u8 208), (29, .int .u8 159), (30, .int .u8 17), (31, .int .u8 87)]).run Try.prog W = .ok (.agg (otherK.map byt).toArray) W := by kernel_rfl
theorem b_ed (W : World) : (Instr.build 24 #[(0, .int .u8 237), (1, .int .u8 255), (2, .int .u8 255), (3, .int .u8 255), (4, .int .u8 255), (5, .int .u8 255), (6, .int .u8 255), (7, .int .u8 255), (8, .int .u8 255), (9, .int .u8 255), (10, .int .u8 255), (11, .int .u8 255), (12, .int .u8 255), (13, .int .u8 255), (14, .int .u8 255), (15, .int .u8 255), (16, .int .u8 255), (17, .int .u8 255), (18, .int .u8 255), (19, .int .u8 255), (20, .int .u8 255), (21, .int .u8 255), (22, .int .u8 255), (23, .int .u8 255), (24, .int .u8 255), (25, .int .u8 255), (26, .int .u8 255), (27, .int .u8 255), (28, .int .u8 255), (29, .int .u8 255), (30, .int .u8 255), (31, .int .u8 127)]).run Try.prog W = .ok (.agg (edK.map byt).toArray) W := by kernel_rfl
theorem b_ee (W : World) : (Instr.build 24 #[(0, .int .u8 238), (1, .int .u8 255), (2, .int .u8 255), (3, .int .u8 255), (4, .int .u8 255), (5, .int .u8 255), (6, .int .u8 255), (7, .int .u8 255), (8, .int .u8 255), (9, .int .u8 255), (10, .int .u8 255), (11, .int .u8 255), (12, .int .u8 255), (13, .int .u8 255), (14, .int .u8 255), (15, .int .u8 255), (16, .int .u8 255), (17, .int .u8 255), (18, .int .u8 255), (19, .int .u8 255), (20, .int .u8 255), (21, .int .u8 255), (22, .int .u8 255), (23, .int .u8 255), (24, .int .u8 255), (25, .int .u8 255), (26, .int .u8 255), (27, .int .u8 255), (28, .int .u8 255), (29, .int .u8 255), (30, .int .u8 255), (31, .int .u8 127)]).run Try.prog W = .ok (.agg (eeK.map byt).toArray) W := by kernel_rfl
/-- The five low points' keys, one behind the other. -/
def lowC : List UInt8 := z32 ++ (keyN 1 ++ (lastK ++ (eightK ++ otherK)))
theorem b_low (W : World) : (Instr.buildSlice 41 5 #[(0, .agg (z32.map byt).toArray), (1, .agg ((keyN 1).map byt).toArray), (2, .agg (lastK.map byt).toArray), (3, .agg (eightK.map byt).toArray), (4, .agg (otherK.map byt).toArray)]).run Try.prog W = .ok (.slice (some ⟨W.heap.size, 0, none⟩) 5 5) (W.alloc (.cells (lowC.map byt).toArray 24)) := by kernel_rfl
structure Lws (n : Nat) (w wx : World) (g1 g2 : Nat) (k1 k2 : List UInt8) : Prop where
  a : Blk wx g1 (k1.map byt) 24
  b : Blk wx g2 (k2.map byt) 24
  be : Below n w wx
  lt : g1 < g2
  lo : n ≤ g2
theorem Lws.set {n : Nat} {w wx : World} {g1 g2 : Nat} {k1 k2 : List UInt8} (h : Lws n w wx g1 g2 k1 k2) (j : Nat) (x : UInt8) : Lws n w (wx.setCell ⟨g2, j, none⟩ (.int .u8 (x.toNat : Int))) g1 g2 k1 (k2.set j x) := by
  obtain ⟨a, b, be, lt, lo⟩ := h
  exact ⟨a.setOther _ _ _ (by omega), by rw [← byt_set]; exact b.set j _, be.setCell (by show n ≤ g2; omega) _, lt, lo⟩

set_option maxRecDepth 100000 in
set_option maxHeartbeats 8000000 in
theorem low_walk (Z K1 K2 K4 K5 LC : List UInt8) (lZ : Z.length = 32) (l1 : K1.length = 32) (l2 : K2.length = 32) (l4 : K4.length = 32) (l5 : K5.length = 32)
    (bz : ∀ W, (Instr.build 24 #[]).run Try.prog W = .ok (.agg (Z.map byt).toArray) W) (b1 : ∀ W, (Instr.build 24 #[(0, .int .u8 1)]).run Try.prog W = .ok (.agg (K1.map byt).toArray) W) (hK2 : (lasL 30).set 31 127 = K2)
    (b4 : ∀ W, (Instr.build 24 #[(0, .int .u8 224), (1, .int .u8 235), (2, .int .u8 122), (3, .int .u8 124), (4, .int .u8 59), (5, .int .u8 65), (6, .int .u8 184), (7, .int .u8 174), (8, .int .u8 22), (9, .int .u8 86), (10, .int .u8 227), (11, .int .u8 250), (12, .int .u8 241), (13, .int .u8 159), (14, .int .u8 196), (15, .int .u8 106), (16, .int .u8 218), (17, .int .u8 9), (18, .int .u8 141), (19, .int .u8 235), (20, .int .u8 156), (21, .int .u8 50), (22, .int .u8 177), (23, .int .u8 253), (24, .int .u8 134), (25, .int .u8 98), (26, .int .u8 5), (27, .int .u8 22), (28, .int .u8 95), (29, .int .u8 73), (30, .int .u8 184), (31, .int .u8 0)]).run Try.prog W = .ok (.agg (K4.map byt).toArray) W) (b5 : ∀ W, (Instr.build 24 #[(0, .int .u8 95), (1, .int .u8 156), (2, .int .u8 149), (3, .int .u8 188), (4, .int .u8 163), (5, .int .u8 80), (6, .int .u8 140), (7, .int .u8 36), (8, .int .u8 177), (9, .int .u8 208), (10, .int .u8 177), (11, .int .u8 85), (12, .int .u8 156), (13, .int .u8 131), (14, .int .u8 239), (15, .int .u8 91), (16, .int .u8 4), (17, .int .u8 68), (18, .int .u8 92), (19, .int .u8 196), (20, .int .u8 88), (21, .int .u8 28), (22, .int .u8 142), (23, .int .u8 134), (24, .int .u8 216), (25, .int .u8 34), (26, .int .u8 78), (27, .int .u8 221), (28, .int .u8 208), (29, .int .u8 159), (30, .int .u8 17), (31, .int .u8 87)]).run Try.prog W = .ok (.agg (K5.map byt).toArray) W)
    (bs : ∀ W, (Instr.buildSlice 41 5 #[(0, .agg (Z.map byt).toArray), (1, .agg (K1.map byt).toArray), (2, .agg (K2.map byt).toArray), (3, .agg (K4.map byt).toArray), (4, .agg (K5.map byt).toArray)]).run Try.prog W = .ok (.slice (some ⟨W.heap.size, 0, none⟩) 5 5) (W.alloc (.cells (LC.map byt).toArray 24)))
    (w : World) : Calls Try.prog 16 #[] w fun e w' => ∃ g, e = .returned (.slice (some ⟨g, 0, none⟩) 5 5) ∧ w.heap.size ≤ g ∧ Blk w' g (LC.map byt) 24 ∧ Below w.heap.size w w' := by
  go_enter Try.func16, Try.ntmps16
  obtain ⟨n, hn⟩ : ∃ n, w.heap.size = n := ⟨_, rfl⟩
  have be : Below n w w := by rw [← hn]; exact Below.refl _ _
  go_upto_region 1 with fail
  refine lst_newT 1 rfl rfl rfl rfl 1 rfl 24 rfl (z32.map byt) zero23 rfl rfl (.tmp 6) rfl ?_
  simp only [List.take_succ_cons, List.take_zero]
  refine wpLex_cons2 _ (uni_build1 (by rfl) 24 (.const (.int .u8 1)) rfl (.int .u8 1) (.agg (K1.map byt).toArray) rfl b1) (by simp only [Act.put, List.setIfInBounds_toArray, List.set_cons_zero, List.set_cons_succ]; rfl) ?_
  refine ⟨K1.map byt, rfl, by simp, by simp, key_info l1, key_len l1, byts_one _, fun gk1 w2 lo hW k1 => ?_⟩
  simp only [Act.put, List.setIfInBounds_toArray, List.set_cons_zero, List.set_cons_succ]
  replace be := be.trans (hW.mono (by have := be.size; omega))
  clear hW lo  
  clear b1
  go_upto_region 2 with fail
  have hb1 := k1.lt
  have be0 := be.size
  refine lst_newT 1 rfl rfl rfl rfl 2 rfl 24 rfl (z32.map byt) zero23 rfl rfl (.tmp 7) rfl ?_
  simp only [List.take_succ_cons, List.take_zero]
  refine wpLex_cons2 _ (uni_build1 (by rfl) 24 (.const (.int .u8 236)) rfl (.int .u8 236) (.agg ((keyN 236).map byt).toArray) rfl (build24k 236)) (by simp only [Act.put, List.setIfInBounds_toArray, List.set_cons_zero, List.set_cons_succ]; rfl) ?_
  refine ⟨(keyN 236).map byt, rfl, by simp, by simp, key_info (keyN_length 236), key_len (keyN_length 236), byts_one _, fun gk2 w3 lo hW k2 => ?_⟩
  simp only [Act.put, List.setIfInBounds_toArray, List.set_cons_zero, List.set_cons_succ]
  replace k1 := k1.on hW
  replace be := be.trans (hW.mono (by have := be.size; omega))
  have lk2 : gk1 < gk2 := Nat.lt_of_lt_of_le hb1 lo
  have lo2 : n ≤ gk2 := Nat.le_trans (by have := be0; omega) lo
  clear be0
  clear hW lo hb1 w2
  have h0 : Hid (Lws n w w3 gk1 gk2 K1 (lasL 0)) := ⟨k1, k2, be, lk2, lo2⟩
  clear k1 k2 be
  go_wp2
  go_loopw [3] (fun i wr => ∃ j : Nat, j ≤ 30 ∧ i = .int .i64 (1 + (j : Int)) ∧ Hid (Lws n w wr gk1 gk2 K1 (lasL j))) (fun i _ => 31 - (intOf i).toNat)
  case atStart => exact ⟨0, by omega, rfl, h0⟩
  case round =>
    obtain ⟨j, hj, rfl, hs⟩ := hrel
    have hlen := las_length j
    obtain ⟨L, hL⟩ : ∃ L, lasL j = L := ⟨_, rfl⟩
    have HL2 := hide hL
    rw [hL] at hs hlen
    clear hL
    by_cases hlt : j < 30
    · obtain ⟨t, ht⟩ : ∃ t, t = j + 1 := ⟨_, rfl⟩
      have hti : (1 : Int) + (j : Int) = (t : Int) := by omega
      rw [hti]
      have hlz : (t : Int) < 31 := by omega
      have hl32 : (t : Int) < 32 := by omega
      have hfz := hs.out.b.frozen t
      have hold := hs.out.b.cell t
      have hol2 : (L.map byt)[t]? = some (byt (L.getD t 0)) := by simp [List.getElem?_eq_getElem (show t < L.length by omega)]
      rw [hol2] at hold
      have HT := hide ht
      clear hol2 hlen ht hti
      go_wp2
      go_roundw
      case rel =>
        refine ⟨j + 1, by omega, by have := HT.out; go_num, ?_⟩
        rw [lasL, HL2.out, ← HT.out]
        exact hs.out.set t 255
      case measure => have := HT.out; simp [intOf] <;> omega
    · obtain rfl : j = 30 := by omega
      have hc : wr.cell? ⟨gk2, 31, none⟩ = some (.int .u8 ((L.getD 31 0).toNat : Int)) := by rw [hs.out.b.cell, byts_at L 31 (by omega)]
      have hf := hs.out.b.frozen 31
      go_upto_region 8 with fail
      clear hc hf
      have hs2 : Lws n w (wr.setCell ⟨gk2, 31, none⟩ (.int .u8 127)) gk1 gk2 K1 (L.set 31 127) := hs.out.set 31 127
      rw [← HL2.out, hK2] at hs2
      generalize wr.setCell ⟨gk2, 31, none⟩ (.int .u8 127) = wm at hs2 ⊢
      obtain ⟨k1, k2, be, lk, lo⟩ := hs2
      clear hs HL2 hlen hlt hj h0 lk lk2 lo lo2
      refine lst_newT 1 rfl rfl rfl rfl 4 rfl 24 rfl (z32.map byt) zero23 rfl rfl (.tmp 15) rfl ?_
      simp only [List.take_succ_cons, List.take_zero]
      refine wpLex_cons2 _ (uni_buildL (by rfl) 24 [(0, .const (.int .u8 224)), (1, .const (.int .u8 235)), (2, .const (.int .u8 122)), (3, .const (.int .u8 124)), (4, .const (.int .u8 59)), (5, .const (.int .u8 65)), (6, .const (.int .u8 184)), (7, .const (.int .u8 174)), (8, .const (.int .u8 22)), (9, .const (.int .u8 86)), (10, .const (.int .u8 227)), (11, .const (.int .u8 250)), (12, .const (.int .u8 241)), (13, .const (.int .u8 159)), (14, .const (.int .u8 196)), (15, .const (.int .u8 106)), (16, .const (.int .u8 218)), (17, .const (.int .u8 9)), (18, .const (.int .u8 141)), (19, .const (.int .u8 235)), (20, .const (.int .u8 156)), (21, .const (.int .u8 50)), (22, .const (.int .u8 177)), (23, .const (.int .u8 253)), (24, .const (.int .u8 134)), (25, .const (.int .u8 98)), (26, .const (.int .u8 5)), (27, .const (.int .u8 22)), (28, .const (.int .u8 95)), (29, .const (.int .u8 73)), (30, .const (.int .u8 184)), (31, .const (.int .u8 0))] rfl [(0, .int .u8 224), (1, .int .u8 235), (2, .int .u8 122), (3, .int .u8 124), (4, .int .u8 59), (5, .int .u8 65), (6, .int .u8 184), (7, .int .u8 174), (8, .int .u8 22), (9, .int .u8 86), (10, .int .u8 227), (11, .int .u8 250), (12, .int .u8 241), (13, .int .u8 159), (14, .int .u8 196), (15, .int .u8 106), (16, .int .u8 218), (17, .int .u8 9), (18, .int .u8 141), (19, .int .u8 235), (20, .int .u8 156), (21, .int .u8 50), (22, .int .u8 177), (23, .int .u8 253), (24, .int .u8 134), (25, .int .u8 98), (26, .int .u8 5), (27, .int .u8 22), (28, .int .u8 95), (29, .int .u8 73), (30, .int .u8 184), (31, .int .u8 0)] rfl (.agg (K4.map byt).toArray) b4) (by simp only [Act.put, List.setIfInBounds_toArray, List.set_cons_zero, List.set_cons_succ]; rfl) ?_
      refine ⟨K4.map byt, rfl, by simp, by simp, key_info l4, key_len l4, byts_one _, fun gk4 w30 lo hW k4 => ?_⟩
      simp only [Act.put, List.setIfInBounds_toArray, List.set_cons_zero, List.set_cons_succ]
      replace k1 := k1.on hW
      replace k2 := k2.on hW
      replace be := be.trans (hW.mono (by have := be.size; omega))
      clear hW lo  wm
      go_upto_region 9 with fail
      refine lst_newT 1 rfl rfl rfl rfl 5 rfl 24 rfl (z32.map byt) zero23 rfl rfl (.tmp 16) rfl ?_
      simp only [List.take_succ_cons, List.take_zero]
      refine wpLex_cons2 _ (uni_buildL (by rfl) 24 [(0, .const (.int .u8 95)), (1, .const (.int .u8 156)), (2, .const (.int .u8 149)), (3, .const (.int .u8 188)), (4, .const (.int .u8 163)), (5, .const (.int .u8 80)), (6, .const (.int .u8 140)), (7, .const (.int .u8 36)), (8, .const (.int .u8 177)), (9, .const (.int .u8 208)), (10, .const (.int .u8 177)), (11, .const (.int .u8 85)), (12, .const (.int .u8 156)), (13, .const (.int .u8 131)), (14, .const (.int .u8 239)), (15, .const (.int .u8 91)), (16, .const (.int .u8 4)), (17, .const (.int .u8 68)), (18, .const (.int .u8 92)), (19, .const (.int .u8 196)), (20, .const (.int .u8 88)), (21, .const (.int .u8 28)), (22, .const (.int .u8 142)), (23, .const (.int .u8 134)), (24, .const (.int .u8 216)), (25, .const (.int .u8 34)), (26, .const (.int .u8 78)), (27, .const (.int .u8 221)), (28, .const (.int .u8 208)), (29, .const (.int .u8 159)), (30, .const (.int .u8 17)), (31, .const (.int .u8 87))] rfl [(0, .int .u8 95), (1, .int .u8 156), (2, .int .u8 149), (3, .int .u8 188), (4, .int .u8 163), (5, .int .u8 80), (6, .int .u8 140), (7, .int .u8 36), (8, .int .u8 177), (9, .int .u8 208), (10, .int .u8 177), (11, .int .u8 85), (12, .int .u8 156), (13, .int .u8 131), (14, .int .u8 239), (15, .int .u8 91), (16, .int .u8 4), (17, .int .u8 68), (18, .int .u8 92), (19, .int .u8 196), (20, .int .u8 88), (21, .int .u8 28), (22, .int .u8 142), (23, .int .u8 134), (24, .int .u8 216), (25, .int .u8 34), (26, .int .u8 78), (27, .int .u8 221), (28, .int .u8 208), (29, .int .u8 159), (30, .int .u8 17), (31, .int .u8 87)] rfl (.agg (K5.map byt).toArray) b5) (by simp only [Act.put, List.setIfInBounds_toArray, List.set_cons_zero, List.set_cons_succ]; rfl) ?_
      refine ⟨K5.map byt, rfl, by simp, by simp, key_info l5, key_len l5, byts_one _, fun gk5 w31 lo hW k5 => ?_⟩
      simp only [Act.put, List.setIfInBounds_toArray, List.set_cons_zero, List.set_cons_succ]
      replace k1 := k1.on hW
      replace k2 := k2.on hW
      replace k4 := k4.on hW
      replace be := be.trans (hW.mono (by have := be.size; omega))
      clear hW lo  w30
      clear b4 b5
      go_upto_region 10 with fail
      refine lst_then 5 ?_
      simp only [List.take_succ_cons, List.take_zero]
      refine wpLex_cons2 _ (uni_build0 (by rfl) 24 rfl (.agg (Z.map byt).toArray) bz) (by simp only [Act.put, List.setIfInBounds_toArray, List.set_cons_zero, List.set_cons_succ]; rfl) ?_
      refine wpLex_cons2 _ (uni_row rfl 24 (.tmp 1) rfl (gk1) (K1.map byt) 24 rfl (fun W hW => k1.on hW) Try.underlying24 rfl (key_info l1)) (by simp only [Act.put, List.setIfInBounds_toArray, List.set_cons_zero, List.set_cons_succ]; rfl) ?_
      refine wpLex_cons2 _ (uni_row rfl 24 (.tmp 2) rfl (gk2) (K2.map byt) 24 rfl (fun W hW => k2.on hW) Try.underlying24 rfl (key_info l2)) (by simp only [Act.put, List.setIfInBounds_toArray, List.set_cons_zero, List.set_cons_succ]; rfl) ?_
      refine wpLex_cons2 _ (uni_row rfl 24 (.tmp 4) rfl (gk4) (K4.map byt) 24 rfl (fun W hW => k4.on hW) Try.underlying24 rfl (key_info l4)) (by simp only [Act.put, List.setIfInBounds_toArray, List.set_cons_zero, List.set_cons_succ]; rfl) ?_
      refine wpLex_cons2 _ (uni_row rfl 24 (.tmp 5) rfl (gk5) (K5.map byt) 24 rfl (fun W hW => k5.on hW) Try.underlying24 rfl (key_info l5)) (by simp only [Act.put, List.setIfInBounds_toArray, List.set_cons_zero, List.set_cons_succ]; rfl) ?_
      intro wy hW
      simp only [List.drop_succ_cons, List.drop_zero]
      replace k1 := k1.on hW
      replace k2 := k2.on hW
      replace k4 := k4.on hW
      replace k5 := k5.on hW
      replace be := be.trans (hW.mono (by have := be.size; omega))
      clear hW
      obtain ⟨gs, hgs⟩ : ∃ g, wy.heap.size = g := ⟨_, rfl⟩
      have hb := bs wy
      rw [hgs] at hb
      refine lst_bld rfl 41 5 [(0, .tmp 17), (1, .tmp 18), (2, .tmp 19), (3, .tmp 20), (4, .tmp 21)] rfl [(0, .agg (Z.map byt).toArray), (1, .agg (K1.map byt).toArray), (2, .agg (K2.map byt).toArray), (3, .agg (K4.map byt).toArray), (4, .agg (K5.map byt).toArray)] rfl (.slice (some ⟨gs, 0, none⟩) 5 5) hb (by simp only [Act.put, List.setIfInBounds_toArray, List.set_cons_zero, List.set_cons_succ]; rfl) ?_
      have kl := Blk.new wy (LC.map byt) 24
      rw [hgs] at kl
      have hsz := be.size
      rw [hgs, hn] at hsz
      replace be := be.alloc (by rw [hgs]; exact hsz) (.cells (LC.map byt).toArray 24)
      clear hb bs k1 k2 k4 k5
      generalize wy.alloc (.cells (LC.map byt).toArray 24) = wv at kl be ⊢
      refine lst_val rfl (Op.assign (Operand.tmp 22)) rfl (.slice (some ⟨gs, 0, none⟩) 5 5) (fun o' ho => by go_simp) (by simp only [Act.put, List.setIfInBounds_toArray, List.set_cons_zero, List.set_cons_succ]; rfl) ?_
      refine wpList_nil ?_
      go_wp2
      go_ret
      exact ⟨gs, rfl, by first | (rw [hn]; exact hsz) | exact hsz, kl, by first | (rw [hn]; exact be) | exact be⟩
theorem low_any (w : World) : Calls Try.prog 16 #[] w fun e w' => ∃ g, e = .returned (.slice (some ⟨g, 0, none⟩) 5 5) ∧ w.heap.size ≤ g ∧ Blk w' g (lowC.map byt) 24 ∧ Below w.heap.size w w' :=
  low_walk z32 (keyN 1) lastK eightK otherK lowC z32_length (keyN_length 1) last_length eight_length other_length build24 (build24k 1) rfl b_eight b_other b_low w
end Go.Proofs.Ytacancfmgnmpiaa
