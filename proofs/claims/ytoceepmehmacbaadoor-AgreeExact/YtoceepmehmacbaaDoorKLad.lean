import Derived.Test.YtoceepmehmacbaaDoorKExchG
import Derived.Test.YtoceepmehmacbaaDoorKStep
set_option linter.unusedVariables false
set_option linter.unusedSimpArgs false
namespace Go.Proofs.YtoceepmehmacbaaDoor.Cv
open Go.RowKit

/-- The ladder, place by place. -/
def ladL (k : List UInt8) (u : L5) : Nat → R2 × R2
  | 0 => (⟨small 1#32, zeroE⟩, ⟨u, small 1#32⟩)
  | j + 1 => if kbit k (254 - j) = true then (sumE (ladL k u j).2 (ladL k u j).1 u, dblE (ladL k u j).2) else (dblE (ladL k u j).1, sumE (ladL k u j).1 (ladL k u j).2 u)

structure Lst (n : Nat) (w wx : World) (g h : Nat) (k : List UInt8) (u : L5) (p q : R2) : Prop where
  ke : Blk wx n (k.map byt) 23
  ua : Blk wx (n + 1) u.cs 71
  re : Blk wx (n + 1 + 1) zero10.cs 73
  pa : Blk wx g p.cs 73
  qa : Blk wx h q.cs 73
  be : Below n w wx
  lg : n + 1 + 1 < g
  lh : n + 1 + 1 < h
  ne : g ≠ h
theorem Lst.on {n : Nat} {w wx wy : World} {g h : Nat} {k : List UInt8} {u : L5} {p q : R2} (s : Lst n w wx g h k u p q) (hb : Below wx.heap.size wx wy) : Lst n w wy g h k u p q :=
  ⟨s.ke.on hb, s.ua.on hb, s.re.on hb, s.pa.on hb, s.qa.on hb, s.be.trans (hb.mono (by have := s.ke.lt; omega)), s.lg, s.lh, s.ne⟩
theorem Lst.put {n : Nat} {w wx : World} {g h : Nat} {k : List UInt8} {u : L5} {p q : R2} (s : Lst n w wx g h k u p q) (p' q' : R2) : Lst n w ((wx.setRow g p'.cs.toArray).setRow h q'.cs.toArray) g h k u p' q' := by
  have h1 := s.lg
  have h2 := s.lh
  have h3 := s.ne
  exact ⟨(s.ke.setRowOther _ _ (by omega)).setRowOther _ _ (by omega), (s.ua.setRowOther _ _ (by omega)).setRowOther _ _ (by omega), (s.re.setRowOther _ _ (by omega)).setRowOther _ _ (by omega), (s.pa.setRow _).setRowOther _ _ h3, (s.qa.setRowOther _ _ (Ne.symm h3)).setRow _,
    below_setRow (below_setRow s.be _ _ (by omega)) _ _ (by omega), h1, h2, h3⟩
theorem and1_of (m : Nat) (h : m < 256) : bits .and .u8 (m : Int) (1 : Int) = ((m % 2 : Nat) : Int) := by
  have h := (bits_nat .u8 8 (by decide) wraps_u8 m 1 h (by decide)).1
  have e : m &&& 1 = m % 2 := Nat.and_two_pow_sub_one_eq_mod m 1
  rw [← e]
  exact h
theorem build55a (x : L5) (W : World) : (Instr.build 73 #[(0, x.v)]).run Tryd.prog W = .ok (R2.mk x zeroE).v W := by kernel_rfl
theorem build55b (x y : L5) (W : World) : (Instr.build 73 #[(0, x.v), (1, y.v)]).run Tryd.prog W = .ok (R2.mk x y).v W := by kernel_rfl

set_option maxRecDepth 100000 in
set_option maxHeartbeats 4000000 in
theorem ladder_any (k : List UInt8) (hk : k.length = 32) (u : L5) (w : World) :
    Calls Tryd.prog 25 #[.agg (k.map byt).toArray, u.v] w fun e w' => e = .returned (ladL k u 255).1.v ∧ Below w.heap.size w w' := by
  go_enter Tryd.func25, Tryd.ntmps25
  go_upto_region 1 with (first | (refine wpList_boxAt rfl 23 (.tmp 0) rfl (k.map byt) rfl (w.heap.size) rfl ?_) | (refine wpList_boxAt rfl 71 (.tmp 1) rfl (u.cs) rfl (w.heap.size + 1) (by simp) ?_) | (refine wpList_newAt rfl 73 rfl zero10.cs zero55 (w.heap.size + 1 + 1) (size2 _ _ _) ?_))
  have b0 : Blk (((w.alloc (.cells (k.map byt).toArray 23)).alloc (.cells (u.cs).toArray 71)).alloc (.cells (zero10.cs).toArray 73)) (w.heap.size) (k.map byt) 23 := by
    have := ((Blk.new w (k.map byt) 23).alloc (.cells (u.cs).toArray 71)).alloc (.cells (zero10.cs).toArray 73)
    simpa using this
  have b1 : Blk (((w.alloc (.cells (k.map byt).toArray 23)).alloc (.cells (u.cs).toArray 71)).alloc (.cells (zero10.cs).toArray 73)) (w.heap.size + 1) (u.cs) 71 := by
    have := (Blk.new (w.alloc (.cells (k.map byt).toArray 23)) (u.cs) 71).alloc (.cells (zero10.cs).toArray 73)
    simpa using this
  have b2 : Blk (((w.alloc (.cells (k.map byt).toArray 23)).alloc (.cells (u.cs).toArray 71)).alloc (.cells (zero10.cs).toArray 73)) (w.heap.size + 1 + 1) (zero10.cs) 73 := by
    have := Blk.new ((w.alloc (.cells (k.map byt).toArray 23)).alloc (.cells (u.cs).toArray 71)) (zero10.cs) 73
    simpa using this
  have be : Below w.heap.size w (((w.alloc (.cells (k.map byt).toArray 23)).alloc (.cells (u.cs).toArray 71)).alloc (.cells (zero10.cs).toArray 73)) := by go_grown
  generalize (((w.alloc (.cells (k.map byt).toArray 23)).alloc (.cells (u.cs).toArray 71)).alloc (.cells (zero10.cs).toArray 73)) = w1 at b0 b1 b2 be ⊢
  obtain ⟨n, hn⟩ : ∃ n, w.heap.size = n := ⟨_, rfl⟩
  rw [hn] at b0 b1 b2 be ⊢
  try simp only [Act.put, List.setIfInBounds_toArray, List.set_cons_zero, List.set_cons_succ]
  have hlow := b2.lt
  refine reg_new2S (by kernel_rfl) 5 rfl rfl rfl rfl rfl (by kernel_rfl) (by kernel_rfl) (by kernel_rfl) (by kernel_rfl) (by kernel_rfl) (by kernel_rfl) (by kernel_rfl) (by kernel_rfl) 73 zero10.cs zero55 (by kernel_rfl) 5 rfl rfl rfl (.tmp 10) rfl rfl rfl 6 rfl rfl rfl (.tmp 13) rfl rfl rfl (by decide) (by simp) ?_
  simp only [List.take_succ_cons, List.take_zero]
  refine wpLex_cons2 _ (uni_callF (by rfl) 34 [Operand.const (Value.int IntKind.u32 1)] #[26] rfl [Value.int IntKind.u32 1] ((small 1#32).v) rfl enter34 (fun W hW => small_any 1#32 W)) (by simp only [Act.put, List.setIfInBounds_toArray, List.set_cons_zero, List.set_cons_succ]; rfl) ?_; refine wpLex_cons2 _ (uni_build1 (by rfl) 73 (.tmp 9) rfl (((small 1#32).v)) ((R2.mk (small 1#32) zeroE).v) rfl (build55a (small 1#32))) (by simp only [Act.put, List.setIfInBounds_toArray, List.set_cons_zero, List.set_cons_succ]; rfl) ?_; refine wpLex_cons2 _ (uni_row rfl 71 (.tmp 3) rfl (n + 1) u.cs 71 rfl (fun W hW => b1.on hW) Tryd.underlying71 rfl (cs_info _)) (by simp only [Act.put, List.setIfInBounds_toArray, List.set_cons_zero, List.set_cons_succ]; rfl) ?_; refine wpLex_cons2 _ (uni_callF (by rfl) 34 [Operand.const (Value.int IntKind.u32 1)] #[26] rfl [Value.int IntKind.u32 1] ((small 1#32).v) rfl enter34 (fun W hW => small_any 1#32 W)) (by simp only [Act.put, List.setIfInBounds_toArray, List.set_cons_zero, List.set_cons_succ]; rfl) ?_; refine wpLex_cons2 _ (uni_build2 (by rfl) 73 (.tmp 11) (.tmp 12) rfl (u.v) (((small 1#32).v)) ((R2.mk u (small 1#32)).v) rfl rfl (build55b u (small 1#32))) (by simp only [Act.put, List.setIfInBounds_toArray, List.set_cons_zero, List.set_cons_succ]; rfl) ?_; refine ⟨(R2.mk (small 1#32) zeroE).cs, (R2.mk u (small 1#32)).cs, rfl, rs_len _ _, rs_one _, by simp, rfl, rs_len _ _, rs_one _, by simp, fun gcp gcq w2 lo0 lo1 ne01 hW cp cq => ?_⟩
  simp only [Act.put, List.setIfInBounds_toArray, List.set_cons_zero, List.set_cons_succ]
  replace b0 := b0.on hW
  replace b1 := b1.on hW
  replace b2 := b2.on hW
  replace be := be.trans (hW.mono (by have := be.size; omega))
  have lcp : n + 1 + 1 < gcp := Nat.lt_of_lt_of_le hlow lo0
  have lcq : n + 1 + 1 < gcq := Nat.lt_of_lt_of_le hlow lo1
  clear hlow hW lo0 lo1  w1
  have h0 : Hid (Lst n w w2 gcp gcq k u (ladL k u 0).1 (ladL k u 0).2) := ⟨b0, b1, b2, cp, cq, be, lcp, lcq, ne01⟩
  clear b0 b1 b2 cp cq be lcp lcq ne01
  have HK := hide hk
  clear hk
  go_wp2
  go_loopw [7] (fun i wr => ∃ j : Nat, j ≤ 255 ∧ i = .int .i64 (254 - (j : Int)) ∧ Hid (Lst n w wr gcp gcq k u (ladL k u j).1 (ladL k u j).2)) (fun i _ => ((intOf i) + 1).toNat)
  case atStart => exact ⟨0, by omega, rfl, h0⟩
  case round =>
    obtain ⟨j, hj, rfl, hs⟩ := hrel
    have hpe : Hid (ladL k u (j + 1) = if kbit k (254 - j) = true then (sumE (ladL k u j).2 (ladL k u j).1 u, dblE (ladL k u j).2) else (dblE (ladL k u j).1, sumE (ladL k u j).1 (ladL k u j).2 u)) := by rw [ladL]; exact hide rfl
    obtain ⟨p, hp⟩ : ∃ p, (ladL k u j).1 = p := ⟨_, rfl⟩
    obtain ⟨q, hq⟩ : ∃ q, (ladL k u j).2 = q := ⟨_, rfl⟩
    have HP := hide hp
    rw [hp, hq] at hs hpe
    clear hp hq
    by_cases hlt2 : j < 255
    · obtain ⟨b, hb⟩ : ∃ b, b = 254 - j := ⟨_, rfl⟩
      have hbi : (254 : Int) - (j : Int) = (b : Int) := by omega
      rw [← hb] at hpe
      rw [hbi]
      have hb6 : b < 256 := by omega
      clear hbi
      obtain ⟨c, hc⟩ : ∃ c, c = b / 8 := ⟨_, rfl⟩
      obtain ⟨r, hr⟩ : ∃ r, r = b % 8 := ⟨_, rfl⟩
      have hkb : Hid (kbit k b = decide ((k.getD c 0).toNat / 2 ^ r % 2 = 1)) := by rw [hc, hr]; exact hide rfl
      have q1 : (b : Int).tdiv 8 = (c : Int) := by rw [Int.tdiv_eq_ediv_of_nonneg (by omega)]; omega
      have q2 : (b : Int) / 8 = (c : Int) := by omega
      have q3 : (b : Int).tmod 8 = (r : Int) := by rw [Int.tmod_eq_emod_of_nonneg (by omega)]; omega
      have q4 : (b : Int) % 8 = (r : Int) := by omega
      have hq32 : (c : Int) < 32 := by omega
      have hr8 : r < 8 := by omega
      have hge : (0 : Int) ≤ (b : Int) := by omega
      obtain ⟨y, hy⟩ : ∃ y, k.getD c 0 = y := ⟨_, rfl⟩
      rw [hy] at hkb
      have hcell : wr.cell? ⟨n, c, none⟩ = some (.int .u8 (y.toNat : Int)) := by
        rw [hs.out.ke.cell, byts_at k c (by rw [HK.out]; omega), hy]
      obtain ⟨m, hm⟩ : ∃ m, m = y.toNat / 2 ^ r := ⟨_, rfl⟩
      have hm6 : m < 256 := by
        rw [hm]
        exact Nat.lt_of_le_of_lt (Nat.div_le_self _ _) y.toNat_lt
      have e1 : (y.toNat : Int) / 2 ^ r = (m : Int) := by
        rw [hm, Int.natCast_ediv, Int.natCast_pow]
        rfl
      have e2 := and1_of m hm6
      rw [← hm] at hkb
      have HB := hide hb
      have HQ := hide hc
      have HRR := hide hr
      clear hb hc hr hy hm hm6
      by_cases hbit : m % 2 = 1
      · have hk1 : kbit k b = true := by rw [hkb.out]; exact decide_eq_true hbit
        have hpe2 : Hid (ladL k u (j + 1) = (sumE q p u, dblE q)) := by have h := hpe.out; rw [hk1] at h; simp at h; exact h
        rw [hbit] at e2
        clear hpe hkb hk1 hbit
        go_upto_region 6 with fail
        clear e1 e2 hcell q1 q2 q3 q4
        refine lst_then 7 ?_
        simp only [List.take_succ_cons, List.take_zero]
        refine wpLex_cons2 _ (uni_val (by rfl) (Op.move (Operand.tmp 8)) rfl (.int .i64 1) (fun o' ho W _ => by go_simp)) (by simp only [Act.put, List.setIfInBounds_toArray, List.set_cons_zero, List.set_cons_succ]; rfl) ?_; refine wpLex_cons2 _ (uni_row rfl 73 (.tmp 5) rfl (gcp) p.cs 73 rfl (fun W hW => (hs.out.on hW).pa) Tryd.underlying73 rfl (rs_info _)) (by simp only [Act.put, List.setIfInBounds_toArray, List.set_cons_zero, List.set_cons_succ]; rfl) ?_; refine wpLex_cons2 _ (uni_row rfl 73 (.tmp 6) rfl (gcq) q.cs 73 rfl (fun W hW => (hs.out.on hW).qa) Tryd.underlying73 rfl (rs_info _)) (by simp only [Act.put, List.setIfInBounds_toArray, List.set_cons_zero, List.set_cons_succ]; rfl) ?_; refine wpLex_cons2 _ (uni_callF (by rfl) 35 [Operand.tmp 28, Operand.tmp 29, Operand.tmp 30] #[3, 73, 73] rfl [.int .i64 1, p.v, q.v] (.tuple #[q.v, p.v]) rfl enter35 (fun W hW => exch_odd (by decide) p q W)) (by simp only [Act.put, List.setIfInBounds_toArray, List.set_cons_zero, List.set_cons_succ]; rfl) ?_; refine wpLex_cons2 _ (uni_val (by rfl) (Op.move (Operand.tmp 31)) rfl ((.tuple #[q.v, p.v])) (fun o' ho W _ => by go_simp)) (by simp only [Act.put, List.setIfInBounds_toArray, List.set_cons_zero, List.set_cons_succ]; rfl) ?_; refine wpLex_cons2 _ (uni_val (by rfl) (Op.extract (Operand.tmp 27) 0) rfl (q.v) (fun o' ho W _ => by go_simp)) (by simp only [Act.put, List.setIfInBounds_toArray, List.set_cons_zero, List.set_cons_succ]; rfl) ?_; refine wpLex_cons2 _ (uni_val (by rfl) (Op.extract (Operand.tmp 27) 1) rfl (p.v) (fun o' ho W _ => by go_simp)) (by simp only [Act.put, List.setIfInBounds_toArray, List.set_cons_zero, List.set_cons_succ]; rfl) ?_
        intro wy hW
        simp only [List.drop_succ_cons, List.drop_zero]
        replace hs := hide (hs.out.on hW)
        clear hW
        refine lst_row rfl rfl 73 (.tmp 5) (.tmp 32) rfl gcp q.cs p.cs 73 rfl rfl hs.out.pa (rs_info _) (rs_len _ _) (rs_one _) ?_; refine lst_row rfl rfl 73 (.tmp 6) (.tmp 33) rfl gcq p.cs q.cs 73 rfl rfl (hs.out.qa.setRowOther _ _ (Ne.symm hs.out.ne)) (rs_info _) (rs_len _ _) (rs_one _) ?_
        replace hs := hide (hs.out.put q p)
        generalize (wy.setRow gcp q.cs.toArray).setRow gcq p.cs.toArray = wa6 at hs ⊢
        clear wy
        refine wpList_nil ?_
        go_upto_region 7 with fail
        obtain ⟨D, hD⟩ : ∃ D, D = dblE q := ⟨_, rfl⟩
        obtain ⟨S, hS⟩ : ∃ S, S = sumE q p u := ⟨_, rfl⟩
        have hst : ∀ W, Calls Tryd.prog 36 #[q.v, p.v, u.v] W fun e w' => e = .returned (.tuple #[D.v, S.v]) ∧ Below W.heap.size W w' := fun W => by rw [hD, hS]; exact step_any q p u W
        have HD := hide hD
        have HS := hide hS
        clear hD hS
        refine lst_then 7 ?_
        simp only [List.take_succ_cons, List.take_zero]
        refine wpLex_cons2 _ (uni_row rfl 73 (.tmp 5) rfl (gcp) q.cs 73 rfl (fun W hW => (hs.out.on hW).pa) Tryd.underlying73 rfl (rs_info _)) (by simp only [Act.put, List.setIfInBounds_toArray, List.set_cons_zero, List.set_cons_succ]; rfl) ?_; refine wpLex_cons2 _ (uni_row rfl 73 (.tmp 6) rfl (gcq) p.cs 73 rfl (fun W hW => (hs.out.on hW).qa) Tryd.underlying73 rfl (rs_info _)) (by simp only [Act.put, List.setIfInBounds_toArray, List.set_cons_zero, List.set_cons_succ]; rfl) ?_; refine wpLex_cons2 _ (uni_row rfl 71 (.tmp 3) rfl (n + 1) u.cs 71 rfl (fun W hW => (hs.out.on hW).ua) Tryd.underlying71 rfl (cs_info _)) (by simp only [Act.put, List.setIfInBounds_toArray, List.set_cons_zero, List.set_cons_succ]; rfl) ?_; refine wpLex_cons2 _ (uni_callF (by rfl) 36 [Operand.tmp 35, Operand.tmp 36, Operand.tmp 37] #[73, 73, 71] rfl [q.v, p.v, u.v] (.tuple #[D.v, S.v]) rfl enter36 (fun W hW => hst W)) (by simp only [Act.put, List.setIfInBounds_toArray, List.set_cons_zero, List.set_cons_succ]; rfl) ?_; refine wpLex_cons2 _ (uni_val (by rfl) (Op.move (Operand.tmp 38)) rfl ((.tuple #[D.v, S.v])) (fun o' ho W _ => by go_simp)) (by simp only [Act.put, List.setIfInBounds_toArray, List.set_cons_zero, List.set_cons_succ]; rfl) ?_; refine wpLex_cons2 _ (uni_val (by rfl) (Op.extract (Operand.tmp 34) 0) rfl (D.v) (fun o' ho W _ => by go_simp)) (by simp only [Act.put, List.setIfInBounds_toArray, List.set_cons_zero, List.set_cons_succ]; rfl) ?_; refine wpLex_cons2 _ (uni_val (by rfl) (Op.extract (Operand.tmp 34) 1) rfl (S.v) (fun o' ho W _ => by go_simp)) (by simp only [Act.put, List.setIfInBounds_toArray, List.set_cons_zero, List.set_cons_succ]; rfl) ?_
        intro wy hW
        simp only [List.drop_succ_cons, List.drop_zero]
        replace hs := hide (hs.out.on hW)
        clear hW
        refine lst_row rfl rfl 73 (.tmp 5) (.tmp 39) rfl gcp D.cs q.cs 73 rfl rfl hs.out.pa (rs_info _) (rs_len _ _) (rs_one _) ?_; refine lst_row rfl rfl 73 (.tmp 6) (.tmp 40) rfl gcq S.cs p.cs 73 rfl rfl (hs.out.qa.setRowOther _ _ (Ne.symm hs.out.ne)) (rs_info _) (rs_len _ _) (rs_one _) ?_
        replace hs := hide (hs.out.put D S)
        generalize (wy.setRow gcp D.cs.toArray).setRow gcq S.cs.toArray = wa7 at hs ⊢
        clear wy
        refine wpList_nil ?_
        clear hst
        go_upto_region 8 with fail
        refine lst_then 7 ?_
        simp only [List.take_succ_cons, List.take_zero]
        refine wpLex_cons2 _ (uni_val (by rfl) (Op.move (Operand.tmp 8)) rfl (.int .i64 1) (fun o' ho W _ => by go_simp)) (by simp only [Act.put, List.setIfInBounds_toArray, List.set_cons_zero, List.set_cons_succ]; rfl) ?_; refine wpLex_cons2 _ (uni_row rfl 73 (.tmp 5) rfl (gcp) D.cs 73 rfl (fun W hW => (hs.out.on hW).pa) Tryd.underlying73 rfl (rs_info _)) (by simp only [Act.put, List.setIfInBounds_toArray, List.set_cons_zero, List.set_cons_succ]; rfl) ?_; refine wpLex_cons2 _ (uni_row rfl 73 (.tmp 6) rfl (gcq) S.cs 73 rfl (fun W hW => (hs.out.on hW).qa) Tryd.underlying73 rfl (rs_info _)) (by simp only [Act.put, List.setIfInBounds_toArray, List.set_cons_zero, List.set_cons_succ]; rfl) ?_; refine wpLex_cons2 _ (uni_callF (by rfl) 35 [Operand.tmp 42, Operand.tmp 43, Operand.tmp 44] #[3, 73, 73] rfl [.int .i64 1, D.v, S.v] (.tuple #[S.v, D.v]) rfl enter35 (fun W hW => exch_odd (by decide) D S W)) (by simp only [Act.put, List.setIfInBounds_toArray, List.set_cons_zero, List.set_cons_succ]; rfl) ?_; refine wpLex_cons2 _ (uni_val (by rfl) (Op.move (Operand.tmp 45)) rfl ((.tuple #[S.v, D.v])) (fun o' ho W _ => by go_simp)) (by simp only [Act.put, List.setIfInBounds_toArray, List.set_cons_zero, List.set_cons_succ]; rfl) ?_; refine wpLex_cons2 _ (uni_val (by rfl) (Op.extract (Operand.tmp 41) 0) rfl (S.v) (fun o' ho W _ => by go_simp)) (by simp only [Act.put, List.setIfInBounds_toArray, List.set_cons_zero, List.set_cons_succ]; rfl) ?_; refine wpLex_cons2 _ (uni_val (by rfl) (Op.extract (Operand.tmp 41) 1) rfl (D.v) (fun o' ho W _ => by go_simp)) (by simp only [Act.put, List.setIfInBounds_toArray, List.set_cons_zero, List.set_cons_succ]; rfl) ?_
        intro wy hW
        simp only [List.drop_succ_cons, List.drop_zero]
        replace hs := hide (hs.out.on hW)
        clear hW
        refine lst_row rfl rfl 73 (.tmp 5) (.tmp 46) rfl gcp S.cs D.cs 73 rfl rfl hs.out.pa (rs_info _) (rs_len _ _) (rs_one _) ?_; refine lst_row rfl rfl 73 (.tmp 6) (.tmp 47) rfl gcq D.cs S.cs 73 rfl rfl (hs.out.qa.setRowOther _ _ (Ne.symm hs.out.ne)) (rs_info _) (rs_len _ _) (rs_one _) ?_
        replace hs := hide (hs.out.put S D)
        generalize (wy.setRow gcp S.cs.toArray).setRow gcq D.cs.toArray = wa8 at hs ⊢
        clear wy
        refine wpList_nil ?_
        go_wp2
        go_roundw
        case rel =>
          refine ⟨j + 1, by omega, by have hbb := HB.out; go_num, ?_⟩
          rw [hpe2.out]
          rw [HD.out, HS.out] at hs
          exact hs
        case measure => simp [intOf] <;> omega
      · have hk1 : kbit k b = false := by rw [hkb.out]; exact decide_eq_false hbit
        have hpe2 : Hid (ladL k u (j + 1) = (dblE p, sumE p q u)) := by have h := hpe.out; rw [hk1] at h; simp at h; exact h
        have hz : m % 2 = 0 := by omega
        rw [hz] at e2
        clear hpe hkb hk1 hbit hz
        go_upto_region 6 with fail
        clear e1 e2 hcell q1 q2 q3 q4
        refine lst_then 7 ?_
        simp only [List.take_succ_cons, List.take_zero]
        refine wpLex_cons2 _ (uni_val (by rfl) (Op.move (Operand.tmp 8)) rfl (.int .i64 0) (fun o' ho W _ => by go_simp)) (by simp only [Act.put, List.setIfInBounds_toArray, List.set_cons_zero, List.set_cons_succ]; rfl) ?_; refine wpLex_cons2 _ (uni_row rfl 73 (.tmp 5) rfl (gcp) p.cs 73 rfl (fun W hW => (hs.out.on hW).pa) Tryd.underlying73 rfl (rs_info _)) (by simp only [Act.put, List.setIfInBounds_toArray, List.set_cons_zero, List.set_cons_succ]; rfl) ?_; refine wpLex_cons2 _ (uni_row rfl 73 (.tmp 6) rfl (gcq) q.cs 73 rfl (fun W hW => (hs.out.on hW).qa) Tryd.underlying73 rfl (rs_info _)) (by simp only [Act.put, List.setIfInBounds_toArray, List.set_cons_zero, List.set_cons_succ]; rfl) ?_; refine wpLex_cons2 _ (uni_callF (by rfl) 35 [Operand.tmp 28, Operand.tmp 29, Operand.tmp 30] #[3, 73, 73] rfl [.int .i64 0, p.v, q.v] (.tuple #[p.v, q.v]) rfl enter35 (fun W hW => exch_even (by decide) p q W)) (by simp only [Act.put, List.setIfInBounds_toArray, List.set_cons_zero, List.set_cons_succ]; rfl) ?_; refine wpLex_cons2 _ (uni_val (by rfl) (Op.move (Operand.tmp 31)) rfl ((.tuple #[p.v, q.v])) (fun o' ho W _ => by go_simp)) (by simp only [Act.put, List.setIfInBounds_toArray, List.set_cons_zero, List.set_cons_succ]; rfl) ?_; refine wpLex_cons2 _ (uni_val (by rfl) (Op.extract (Operand.tmp 27) 0) rfl (p.v) (fun o' ho W _ => by go_simp)) (by simp only [Act.put, List.setIfInBounds_toArray, List.set_cons_zero, List.set_cons_succ]; rfl) ?_; refine wpLex_cons2 _ (uni_val (by rfl) (Op.extract (Operand.tmp 27) 1) rfl (q.v) (fun o' ho W _ => by go_simp)) (by simp only [Act.put, List.setIfInBounds_toArray, List.set_cons_zero, List.set_cons_succ]; rfl) ?_
        intro wy hW
        simp only [List.drop_succ_cons, List.drop_zero]
        replace hs := hide (hs.out.on hW)
        clear hW
        refine lst_row rfl rfl 73 (.tmp 5) (.tmp 32) rfl gcp p.cs p.cs 73 rfl rfl hs.out.pa (rs_info _) (rs_len _ _) (rs_one _) ?_; refine lst_row rfl rfl 73 (.tmp 6) (.tmp 33) rfl gcq q.cs q.cs 73 rfl rfl (hs.out.qa.setRowOther _ _ (Ne.symm hs.out.ne)) (rs_info _) (rs_len _ _) (rs_one _) ?_
        replace hs := hide (hs.out.put p q)
        generalize (wy.setRow gcp p.cs.toArray).setRow gcq q.cs.toArray = wa6 at hs ⊢
        clear wy
        refine wpList_nil ?_
        go_upto_region 7 with fail
        obtain ⟨D, hD⟩ : ∃ D, D = dblE p := ⟨_, rfl⟩
        obtain ⟨S, hS⟩ : ∃ S, S = sumE p q u := ⟨_, rfl⟩
        have hst : ∀ W, Calls Tryd.prog 36 #[p.v, q.v, u.v] W fun e w' => e = .returned (.tuple #[D.v, S.v]) ∧ Below W.heap.size W w' := fun W => by rw [hD, hS]; exact step_any p q u W
        have HD := hide hD
        have HS := hide hS
        clear hD hS
        refine lst_then 7 ?_
        simp only [List.take_succ_cons, List.take_zero]
        refine wpLex_cons2 _ (uni_row rfl 73 (.tmp 5) rfl (gcp) p.cs 73 rfl (fun W hW => (hs.out.on hW).pa) Tryd.underlying73 rfl (rs_info _)) (by simp only [Act.put, List.setIfInBounds_toArray, List.set_cons_zero, List.set_cons_succ]; rfl) ?_; refine wpLex_cons2 _ (uni_row rfl 73 (.tmp 6) rfl (gcq) q.cs 73 rfl (fun W hW => (hs.out.on hW).qa) Tryd.underlying73 rfl (rs_info _)) (by simp only [Act.put, List.setIfInBounds_toArray, List.set_cons_zero, List.set_cons_succ]; rfl) ?_; refine wpLex_cons2 _ (uni_row rfl 71 (.tmp 3) rfl (n + 1) u.cs 71 rfl (fun W hW => (hs.out.on hW).ua) Tryd.underlying71 rfl (cs_info _)) (by simp only [Act.put, List.setIfInBounds_toArray, List.set_cons_zero, List.set_cons_succ]; rfl) ?_; refine wpLex_cons2 _ (uni_callF (by rfl) 36 [Operand.tmp 35, Operand.tmp 36, Operand.tmp 37] #[73, 73, 71] rfl [p.v, q.v, u.v] (.tuple #[D.v, S.v]) rfl enter36 (fun W hW => hst W)) (by simp only [Act.put, List.setIfInBounds_toArray, List.set_cons_zero, List.set_cons_succ]; rfl) ?_; refine wpLex_cons2 _ (uni_val (by rfl) (Op.move (Operand.tmp 38)) rfl ((.tuple #[D.v, S.v])) (fun o' ho W _ => by go_simp)) (by simp only [Act.put, List.setIfInBounds_toArray, List.set_cons_zero, List.set_cons_succ]; rfl) ?_; refine wpLex_cons2 _ (uni_val (by rfl) (Op.extract (Operand.tmp 34) 0) rfl (D.v) (fun o' ho W _ => by go_simp)) (by simp only [Act.put, List.setIfInBounds_toArray, List.set_cons_zero, List.set_cons_succ]; rfl) ?_; refine wpLex_cons2 _ (uni_val (by rfl) (Op.extract (Operand.tmp 34) 1) rfl (S.v) (fun o' ho W _ => by go_simp)) (by simp only [Act.put, List.setIfInBounds_toArray, List.set_cons_zero, List.set_cons_succ]; rfl) ?_
        intro wy hW
        simp only [List.drop_succ_cons, List.drop_zero]
        replace hs := hide (hs.out.on hW)
        clear hW
        refine lst_row rfl rfl 73 (.tmp 5) (.tmp 39) rfl gcp D.cs p.cs 73 rfl rfl hs.out.pa (rs_info _) (rs_len _ _) (rs_one _) ?_; refine lst_row rfl rfl 73 (.tmp 6) (.tmp 40) rfl gcq S.cs q.cs 73 rfl rfl (hs.out.qa.setRowOther _ _ (Ne.symm hs.out.ne)) (rs_info _) (rs_len _ _) (rs_one _) ?_
        replace hs := hide (hs.out.put D S)
        generalize (wy.setRow gcp D.cs.toArray).setRow gcq S.cs.toArray = wa7 at hs ⊢
        clear wy
        refine wpList_nil ?_
        clear hst
        go_upto_region 8 with fail
        refine lst_then 7 ?_
        simp only [List.take_succ_cons, List.take_zero]
        refine wpLex_cons2 _ (uni_val (by rfl) (Op.move (Operand.tmp 8)) rfl (.int .i64 0) (fun o' ho W _ => by go_simp)) (by simp only [Act.put, List.setIfInBounds_toArray, List.set_cons_zero, List.set_cons_succ]; rfl) ?_; refine wpLex_cons2 _ (uni_row rfl 73 (.tmp 5) rfl (gcp) D.cs 73 rfl (fun W hW => (hs.out.on hW).pa) Tryd.underlying73 rfl (rs_info _)) (by simp only [Act.put, List.setIfInBounds_toArray, List.set_cons_zero, List.set_cons_succ]; rfl) ?_; refine wpLex_cons2 _ (uni_row rfl 73 (.tmp 6) rfl (gcq) S.cs 73 rfl (fun W hW => (hs.out.on hW).qa) Tryd.underlying73 rfl (rs_info _)) (by simp only [Act.put, List.setIfInBounds_toArray, List.set_cons_zero, List.set_cons_succ]; rfl) ?_; refine wpLex_cons2 _ (uni_callF (by rfl) 35 [Operand.tmp 42, Operand.tmp 43, Operand.tmp 44] #[3, 73, 73] rfl [.int .i64 0, D.v, S.v] (.tuple #[D.v, S.v]) rfl enter35 (fun W hW => exch_even (by decide) D S W)) (by simp only [Act.put, List.setIfInBounds_toArray, List.set_cons_zero, List.set_cons_succ]; rfl) ?_; refine wpLex_cons2 _ (uni_val (by rfl) (Op.move (Operand.tmp 45)) rfl ((.tuple #[D.v, S.v])) (fun o' ho W _ => by go_simp)) (by simp only [Act.put, List.setIfInBounds_toArray, List.set_cons_zero, List.set_cons_succ]; rfl) ?_; refine wpLex_cons2 _ (uni_val (by rfl) (Op.extract (Operand.tmp 41) 0) rfl (D.v) (fun o' ho W _ => by go_simp)) (by simp only [Act.put, List.setIfInBounds_toArray, List.set_cons_zero, List.set_cons_succ]; rfl) ?_; refine wpLex_cons2 _ (uni_val (by rfl) (Op.extract (Operand.tmp 41) 1) rfl (S.v) (fun o' ho W _ => by go_simp)) (by simp only [Act.put, List.setIfInBounds_toArray, List.set_cons_zero, List.set_cons_succ]; rfl) ?_
        intro wy hW
        simp only [List.drop_succ_cons, List.drop_zero]
        replace hs := hide (hs.out.on hW)
        clear hW
        refine lst_row rfl rfl 73 (.tmp 5) (.tmp 46) rfl gcp D.cs D.cs 73 rfl rfl hs.out.pa (rs_info _) (rs_len _ _) (rs_one _) ?_; refine lst_row rfl rfl 73 (.tmp 6) (.tmp 47) rfl gcq S.cs S.cs 73 rfl rfl (hs.out.qa.setRowOther _ _ (Ne.symm hs.out.ne)) (rs_info _) (rs_len _ _) (rs_one _) ?_
        replace hs := hide (hs.out.put D S)
        generalize (wy.setRow gcp D.cs.toArray).setRow gcq S.cs.toArray = wa8 at hs ⊢
        clear wy
        refine wpList_nil ?_
        go_wp2
        go_roundw
        case rel =>
          refine ⟨j + 1, by omega, by have hbb := HB.out; go_num, ?_⟩
          rw [hpe2.out]
          rw [HD.out, HS.out] at hs
          exact hs
        case measure => simp [intOf] <;> omega
    · obtain rfl : j = 255 := by omega
      clear hpe
      go_wp2_with (first | (refine wpList_load_row rfl 73 (.tmp 5) rfl gcp rfl 73 p.cs.toArray (0, 0) _ hs.out.pa Tryd.underlying73 rfl (rs_infoA _) ?_) | (refine wpList_store_row rfl 73 (.tmp 4) (.tmp 48) rfl (n + 1 + 1) p.cs.toArray rfl rfl 73 zero10.cs.toArray hs.out.re (rs_infoA _) (rs_sz _ _) (rs_one _) ?_))
      refine bodyPost_ret (results_cell_row Tryd.results25 _ _ (n + 1 + 1) 73 p.cs.toArray (0, 0) _ rfl (hs.out.re.setRow _) Tryd.underlying73 rfl (rs_infoA _)) rfl ?_
      exact ⟨by rw [HP.out]; rfl, by first | (rw [hn]; exact below_setRow hs.out.be _ _ (by omega)) | exact below_setRow hs.out.be _ _ (by omega)⟩
end Go.Proofs.YtoceepmehmacbaaDoor.Cv
