import Derived.Test.YtacancfmgnmpiaaLowF
import Derived.Test.YtacancfmgnmpiaaUnk
import Derived.Test.YtacancfmgnmpiaaAgreesW
set_option linter.unusedVariables false
set_option linter.unusedSimpArgs false
namespace Go.Proofs.Ytacancfmgnmpiaa
open Go.RowKit

/-- The highest bit cleared. -/
def plL (U : List UInt8) : List UInt8 := U.set 31 (U.getD 31 0 &&& 127)
theorem pl_length (U : List UInt8) : (plL U).length = U.length := by simp [plL]
def badF (ED EE : List UInt8) (KL : Nat → List UInt8) (pl : List UInt8) : Nat → Bool
  | 0 => if decide (pl = ED) = true then true else decide (pl = EE)
  | t + 1 => if badF ED EE KL pl t = true then true else decide (pl = KL t)
structure Lw (n : Nat) (w wx : World) (g3 g4 gl : Nat) (LC k U : List UInt8) : Prop where
  k3 : Blk wx g3 (k.map byt) 24
  k4 : Blk wx g4 (U.map byt) 24
  kl : Blk wx gl (LC.map byt) 24
  be : Below n w wx
  n4 : n ≤ g4
  n34 : g3 ≠ g4
  n3l : g3 ≠ gl
  n4l : g4 ≠ gl
theorem Lw.on {n : Nat} {w wx wy : World} {g3 g4 gl : Nat} {LC k U : List UInt8} (h : Lw n w wx g3 g4 gl LC k U) (hb : Below wx.heap.size wx wy) : Lw n w wy g3 g4 gl LC k U :=
  ⟨h.k3.on hb, h.k4.on hb, h.kl.on hb, h.be.trans (hb.mono (by have := h.n4; have := h.k4.lt; omega)), h.n4, h.n34, h.n3l, h.n4l⟩
theorem Lw.set {n : Nat} {w wx : World} {g3 g4 gl : Nat} {LC k U : List UInt8} (h : Lw n w wx g3 g4 gl LC k U) (j : Nat) (x : UInt8) : Lw n w (wx.setCell ⟨g4, j, none⟩ (.int .u8 (x.toNat : Int))) g3 g4 gl LC k (U.set j x) := by
  obtain ⟨a, b, c, d, e, f, g, i⟩ := h
  exact ⟨a.setOther _ _ _ f, by rw [← byt_set]; exact b.set j _, c.setOther _ _ _ (Ne.symm i), d.setCell (by show n ≤ g4; omega) _, e, f, g, i⟩
theorem Lw.put {n : Nat} {w wx : World} {g3 g4 gl : Nat} {LC k U : List UInt8} (h : Lw n w wx g3 g4 gl LC k U) (V : List UInt8) : Lw n w (wx.setRow g4 (V.map byt).toArray) g3 g4 gl LC k V := by
  obtain ⟨a, b, c, d, e, f, g, i⟩ := h
  exact ⟨a.setRowOther _ _ f, b.setRow _, c.setRowOther _ _ (Ne.symm i), below_setRow d _ _ (by omega), e, f, g, i⟩
theorem rest6 (z : Int) : ∃ m : Nat, m < 6 ∧ (z.tmod 6 = (m : Int) ∨ (z.tmod 6 < 0 ∧ IntKind.i64.wrap (z.tmod 6 + 6) = (m : Int))) := by
  have h1 := Int.tmod_lt_of_pos z (show (0 : Int) < 6 by decide)
  have h2 := Int.lt_tmod_of_pos z (show (0 : Int) < 6 by decide)
  by_cases h : z.tmod 6 < 0
  · refine ⟨(z.tmod 6 + 6).toNat, by omega, .inr ⟨h, ?_⟩⟩
    rw [wrap64_small (by omega) (by omega)]
    omega
  · exact ⟨(z.tmod 6).toNat, by omega, .inl (by omega)⟩
theorem zero40 : True := trivial
theorem lowS_len {k u : List UInt8} {z : Int} {b : Bool} (hk : k.length = 32) (hu : u.length = 32) : (lowS k u z b).length = 66 := by simp [lowS, hk, hu]

structure Lw2 (n : Nat) (w wx : World) (g3 g4 gl gx gp : Nat) (LC k U X P : List UInt8) : Prop where
  k3 : Blk wx g3 (k.map byt) 24
  k4 : Blk wx g4 (U.map byt) 24
  kl : Blk wx gl (LC.map byt) 24
  kx : Blk wx gx (X.map byt) 24
  kp : Blk wx gp (P.map byt) 24
  be : Below n w wx
  nn : n ≤ w.heap.size
theorem Lw2.on {n : Nat} {w wx wy : World} {g3 g4 gl gx gp : Nat} {LC k U X P : List UInt8} (h : Lw2 n w wx g3 g4 gl gx gp LC k U X P) (hb : Below wx.heap.size wx wy) : Lw2 n w wy g3 g4 gl gx gp LC k U X P :=
  ⟨h.k3.on hb, h.k4.on hb, h.kl.on hb, h.kx.on hb, h.kp.on hb, h.be.trans (hb.mono (by have := h.be.size; have := h.nn; omega)), h.nn⟩

set_option maxRecDepth 100000 in
set_option maxHeartbeats 16000000 in
theorem lowlaw_walk (k u LC ED EE Z : List UInt8) (z : Int) (b : Bool) (T : List UInt8 → List UInt8) (E : List UInt8 → Int) (KK : Nat → List UInt8) (lk : k.length = 32) (lu : u.length = 32) (lED : ED.length = 32) (lEE : EE.length = 32) (lZ : Z.length = 32) (lKK : ∀ i, (KK i).length = 32) (lT : ∀ U, (T U).length = 32)
    (hlow : ∀ W, Calls Try.prog 16 #[] W fun e w' => ∃ g, e = .returned (.slice (some ⟨g, 0, none⟩) 5 5) ∧ W.heap.size ≤ g ∧ Blk w' g (LC.map byt) 24 ∧ Below W.heap.size W w')
    (hat : ∀ i, i < 5 → ∀ j, j < ((KK i).map byt).length → (LC.map byt)[i * 32 + j]? = ((KK i).map byt)[j]?)
    (bED : ∀ W, (Instr.build 24 #[(0, .int .u8 237), (1, .int .u8 255), (2, .int .u8 255), (3, .int .u8 255), (4, .int .u8 255), (5, .int .u8 255), (6, .int .u8 255), (7, .int .u8 255), (8, .int .u8 255), (9, .int .u8 255), (10, .int .u8 255), (11, .int .u8 255), (12, .int .u8 255), (13, .int .u8 255), (14, .int .u8 255), (15, .int .u8 255), (16, .int .u8 255), (17, .int .u8 255), (18, .int .u8 255), (19, .int .u8 255), (20, .int .u8 255), (21, .int .u8 255), (22, .int .u8 255), (23, .int .u8 255), (24, .int .u8 255), (25, .int .u8 255), (26, .int .u8 255), (27, .int .u8 255), (28, .int .u8 255), (29, .int .u8 255), (30, .int .u8 255), (31, .int .u8 127)]).run Try.prog W = .ok (.agg (ED.map byt).toArray) W) (bEE : ∀ W, (Instr.build 24 #[(0, .int .u8 238), (1, .int .u8 255), (2, .int .u8 255), (3, .int .u8 255), (4, .int .u8 255), (5, .int .u8 255), (6, .int .u8 255), (7, .int .u8 255), (8, .int .u8 255), (9, .int .u8 255), (10, .int .u8 255), (11, .int .u8 255), (12, .int .u8 255), (13, .int .u8 255), (14, .int .u8 255), (15, .int .u8 255), (16, .int .u8 255), (17, .int .u8 255), (18, .int .u8 255), (19, .int .u8 255), (20, .int .u8 255), (21, .int .u8 255), (22, .int .u8 255), (23, .int .u8 255), (24, .int .u8 255), (25, .int .u8 255), (26, .int .u8 255), (27, .int .u8 255), (28, .int .u8 255), (29, .int .u8 255), (30, .int .u8 255), (31, .int .u8 127)]).run Try.prog W = .ok (.agg (EE.map byt).toArray) W) (bz : ∀ W, (Instr.build 24 #[]).run Try.prog W = .ok (.agg (Z.map byt).toArray) W)
    (hsh : ∀ U, U.length = 32 → ∀ W, Calls Try.prog 13 #[.agg (k.map byt).toArray, .agg (U.map byt).toArray] W fun e w' => e = .returned (.tuple #[.agg ((T U).map byt).toArray, .int .i64 (E U)]) ∧ Below W.heap.size W w')
    (htm : ∀ U, U.length = 32 → ∀ W, Calls Try.prog 10 #[.agg (k.map byt).toArray, .agg (U.map byt).toArray] W fun e w' => e = .returned (.agg ((T U).map byt).toArray) ∧ Below W.heap.size W w')
    (hbad : ∀ U, U.length = 32 → badF ED EE KK (plL U) 5 = true → E U = 70 ∧ T U = Z) (hgood : ∀ U, U.length = 32 → badF ED EE KK (plL U) 5 = false → E U = 0 ∧ T U ≠ Z)
    (w : World) : Calls Try.prog 7 #[.agg (lowS k u z b).toArray] w fun e w' => e = .returned (.bool true) ∧ Below w.heap.size w w' := by
  obtain ⟨m, hm, hz⟩ := rest6 z
  have HZ := hide hz
  clear hz
  have HAT := hide hat
  clear hat
  go_enter Try.func7, Try.ntmps7
  go_upto_region 1 with (first | (refine wpList_boxAt rfl 40 (.tmp 0) rfl (lowS k u z b) rfl (w.heap.size) rfl ?_))
  have b0 : Blk (w.alloc (.cells (lowS k u z b).toArray 40)) (w.heap.size) (lowS k u z b) 40 := by
    have := Blk.new w (lowS k u z b) 40
    simpa using this
  have be : Below w.heap.size w (w.alloc (.cells (lowS k u z b).toArray 40)) := by go_grown
  generalize (w.alloc (.cells (lowS k u z b).toArray 40)) = w1 at b0 be ⊢
  obtain ⟨n, hn⟩ : ∃ n, w.heap.size = n := ⟨_, rfl⟩
  rw [hn] at b0 be ⊢
  try simp only [Act.put, List.setIfInBounds_toArray, List.set_cons_zero, List.set_cons_succ]
  have r0 : ∀ W, Below w1.heap.size w1 W → W.rangeAt n 0 (k.map byt) := fun W hW => (b0.on hW).range lowS_0
  have r1 : ∀ W, Below w1.heap.size w1 W → W.rangeAt n 32 (u.map byt) := fun W hW => (b0.on hW).range (lowS_1 lk)
  have r2 : ∀ W, Below w1.heap.size w1 W → W.cell? ⟨n, 64, none⟩ = some (.int .i64 z) := fun W hW => ((b0.on hW).cell 64).trans (lowS_2 lk lu).1
  have r3 : ∀ W, Below w1.heap.size w1 W → W.cell? ⟨n, 65, none⟩ = some (.bool b) := fun W hW => ((b0.on hW).cell 65).trans (lowS_2 lk lu).2
  have hlow0 := b0.lt
  refine reg_new2SA (by kernel_rfl) 8 rfl rfl rfl rfl rfl rfl rfl (by kernel_rfl) (by kernel_rfl) (by kernel_rfl) (by kernel_rfl) (by kernel_rfl) (by kernel_rfl) (by kernel_rfl) (by kernel_rfl) (by kernel_rfl) (by kernel_rfl) 24 (z32.map byt) zero23 (by kernel_rfl) 3 rfl rfl rfl (.tmp 16) rfl rfl rfl 4 rfl rfl rfl (.tmp 18) rfl rfl rfl rfl (.assign (.tmp 20)) rfl rfl (.assign (.tmp 22)) rfl (by decide) (by simp) ?_
  simp only [List.take_succ_cons, List.take_zero]
  refine wpLex_cons2 _ (uni_val (by rfl) (Op.fieldAddr 40 (Operand.tmp 1) 0) rfl (.pointer (some ⟨n, 0, none⟩)) (fun o' ho W _ => by go_simp)) (by simp only [Act.put, List.setIfInBounds_toArray, List.set_cons_zero, List.set_cons_succ]; rfl) ?_
  refine wpLex_cons2 _ (uni_mid rfl 24 (.tmp 15) rfl n 0 (k.map byt) rfl r0 Try.underlying24 rfl (key_info lk)) (by simp only [Act.put, List.setIfInBounds_toArray, List.set_cons_zero, List.set_cons_succ]; rfl) ?_
  refine wpLex_cons2 _ (uni_val (by rfl) (Op.fieldAddr 40 (Operand.tmp 1) 1) rfl (.pointer (some ⟨n, 32, none⟩)) (fun o' ho W _ => by go_simp)) (by simp only [Act.put, List.setIfInBounds_toArray, List.set_cons_zero, List.set_cons_succ]; rfl) ?_
  refine wpLex_cons2 _ (uni_mid rfl 24 (.tmp 17) rfl n 32 (u.map byt) rfl r1 Try.underlying24 rfl (key_info lu)) (by simp only [Act.put, List.setIfInBounds_toArray, List.set_cons_zero, List.set_cons_succ]; rfl) ?_
  refine wpLex_cons2 _ (uni_val (by rfl) (Op.fieldAddr 40 (Operand.tmp 1) 2) rfl (.pointer (some ⟨n, 64, none⟩)) (fun o' ho W _ => by go_simp)) (by simp only [Act.put, List.setIfInBounds_toArray, List.set_cons_zero, List.set_cons_succ]; rfl) ?_
  refine wpLex_cons2 _ (uni_cell (by rfl) 3 (.tmp 19) rfl n 64 (.int .i64 z) rfl r2 Try.underlying3 rfl) (by simp only [Act.put, List.setIfInBounds_toArray, List.set_cons_zero, List.set_cons_succ]; rfl) ?_
  refine wpLex_cons2 _ (uni_val (by rfl) (Op.fieldAddr 40 (Operand.tmp 1) 3) rfl (.pointer (some ⟨n, 65, none⟩)) (fun o' ho W _ => by go_simp)) (by simp only [Act.put, List.setIfInBounds_toArray, List.set_cons_zero, List.set_cons_succ]; rfl) ?_
  refine wpLex_cons2 _ (uni_cell (by rfl) 4 (.tmp 21) rfl n 65 (.bool b) rfl r3 Try.underlying4 rfl) (by simp only [Act.put, List.setIfInBounds_toArray, List.set_cons_zero, List.set_cons_succ]; rfl) ?_
  refine ⟨k.map byt, u.map byt, .int .i64 z, .bool b, rfl, key_len lk, byts_one _, by simp, rfl, key_len lu, byts_one _, by simp, (fun g0 g1 o' ho W => by go_simp), (fun g0 g1 o' ho W => by go_simp), fun g3 g4 w2 lo0 lo1 ne01 hW k3 k4 => ?_⟩
  simp only [Act.put, List.setIfInBounds_toArray, List.set_cons_zero, List.set_cons_succ]
  replace be := be.trans (hW.mono (by have := be.size; omega))
  have n4 : n ≤ g4 := by omega
  clear r0 r1 r2 r3 b0 hW lo0 lo1 w1 hlow0
  have hl2 := fun W => hlow W
  go_upto_region 3 with (go_at_call 16; refine (hl2 _).mono ?_; rintro e w3 ⟨gl, rfl, hge, kl, hb3⟩; have B3 := hide hb3; clear hb3)
  have q3 := k3.lt
  have q4 := k4.lt
  have h0 : Hid (Lw n w w3 g3 g4 gl LC k u) := ⟨k3.on B3.out, k4.on B3.out, kl, be.trans (B3.out.mono (by have := be.size; omega)), n4, ne01, by omega, by omega⟩
  clear k3 k4 kl be B3 hge q3 q4 hl2 hlow n4 ne01 w2
  go_upto_if 27 with fail
  go_cut [8] (fun v wx => v = .int .i64 (m : Int) ∧ wx = w3)
  case first =>
    rcases HZ.out with hz | ⟨hneg, hw⟩
    · have hneg : ¬ (m : Int) < 0 := by omega
      go_wp2
      go_meet
      case rel => exact ⟨by rw [← hz], rfl⟩
    · obtain ⟨r, hr⟩ : ∃ r, z.tmod 6 = r := ⟨_, rfl⟩
      rw [hr] at hneg hw
      go_wp2
      go_meet
      case rel => exact ⟨by first | rfl | rw [hw], rfl⟩
  case rest =>
  obtain ⟨rfl, rfl⟩ := hcut
  clear HZ
  go_upto_if 31 with fail
  go_cut [] (fun wx => ∃ U : List UInt8, U.length = 32 ∧ Hid (Lw n w wx g3 g4 gl LC k U))
  case first =>
    by_cases h5 : m < 5
    · have h5z : (m : Int) < 5 := by omega
      have rg : wc.rangeAt gl (m * 32) ((KK m).map byt) := h0.out.kl.range (HAT.out m h5)
      have lm := lKK m
      generalize KK m = V at rg lm
      go_wp2_with (first | (refine wpList_load_mid rfl 24 (.tmp 34) rfl gl (m * 32) rfl (V.map byt) _ rg Try.underlying24 rfl (key_info lm) ?_) | (refine wpList_store_row rfl 24 (.tmp 4) (.tmp 35) rfl g4 (V.map byt).toArray rfl rfl 24 (u.map byt).toArray h0.out.k4 (key_infoA lm) (by simp [lu, lm]) (byts_one _) ?_))
      go_meet
      case rel => exact ⟨V, lm, h0.out.put V⟩
    · have h5z : ¬ (m : Int) < 5 := by omega
      go_wp2
      go_meet
      case rel => exact ⟨u, lu, h0⟩
  case rest =>
  obtain ⟨U0, lU0, h1⟩ := hcut
  clear h0
  go_upto_if 36 with fail
  go_cut [] (fun wx => ∃ U : List UInt8, U.length = 32 ∧ Hid (Lw n w wx g3 g4 gl LC k U))
  case first =>
    cases b with
    | false =>
      go_wp2
      go_meet
      case rel => exact ⟨U0, lU0, h1⟩
    | true =>
      obtain ⟨a0, ha0⟩ : ∃ a, U0.getD 31 0 = a := ⟨_, rfl⟩
      have hc : wc.cell? ⟨g4, 31, none⟩ = some (.int .u8 (a0.toNat : Int)) := by rw [h1.out.k4.cell, byts_at U0 31 (by omega), ha0]
      have hf := h1.out.k4.frozen 31
      obtain ⟨A, hA⟩ : ∃ A, a0 ^^^ 128 = A := ⟨_, rfl⟩
      have x1 : bits .xor .u8 (a0.toNat : Int) 128 = (A.toNat : Int) := by rw [← hA]; exact uxor a0 128 (by decide)
      clear hA ha0
      go_wp2
      go_meet
      case rel => exact ⟨U0.set 31 A, by rw [List.length_set, lU0], h1.out.set 31 A⟩
  case rest =>
  obtain ⟨U, lU, h2⟩ := hcut
  clear h1 lU0
  have hB := hbad U lU
  have hG := hgood U lU
  have cs := fun W => hsh U lU W
  have ct := fun W => htm U lU W
  have lX := lT U
  obtain ⟨X, hX⟩ : ∃ X, T U = X := ⟨_, rfl⟩
  obtain ⟨ev, hev⟩ : ∃ v, E U = v := ⟨_, rfl⟩
  rw [hX] at cs ct lX hB hG
  rw [hev] at cs hB hG
  clear hX hev hbad hgood hsh htm lT
  obtain ⟨k3, k4, kl, be, n4, n34, n3l, n4l⟩ := h2.out
  clear h2
  go_upto_region 10 with fail
  refine lst_then 6 ?_
  simp only [List.take_succ_cons, List.take_zero]
  refine wpLex_cons2 _ (uni_row rfl 24 (.tmp 3) rfl (g3) (k.map byt) 24 rfl (fun W hW => k3.on hW) Try.underlying24 rfl (key_info lk)) (by simp only [Act.put, List.setIfInBounds_toArray, List.set_cons_zero, List.set_cons_succ]; rfl) ?_
  refine wpLex_cons2 _ (uni_row rfl 24 (.tmp 4) rfl (g4) (U.map byt) 24 rfl (fun W hW => k4.on hW) Try.underlying24 rfl (key_info lU)) (by simp only [Act.put, List.setIfInBounds_toArray, List.set_cons_zero, List.set_cons_succ]; rfl) ?_
  refine wpLex_cons2 _ (uni_callF (by rfl) 13 [Operand.tmp 42, Operand.tmp 43] #[24, 24] rfl [.agg (k.map byt).toArray, .agg (U.map byt).toArray] (.tuple #[.agg (X.map byt).toArray, .int .i64 ev]) rfl enter13 (fun W hW => cs W)) (by simp only [Act.put, List.setIfInBounds_toArray, List.set_cons_zero, List.set_cons_succ]; rfl) ?_
  refine wpLex_cons2 _ (uni_val (by rfl) (Op.move (Operand.tmp 44)) rfl ((.tuple #[.agg (X.map byt).toArray, .int .i64 ev])) (fun o' ho W _ => by go_simp)) (by simp only [Act.put, List.setIfInBounds_toArray, List.set_cons_zero, List.set_cons_succ]; rfl) ?_
  refine wpLex_cons2 _ (uni_val (by rfl) (Op.extract (Operand.tmp 41) 0) rfl (.agg (X.map byt).toArray) (fun o' ho W _ => by go_simp)) (by simp only [Act.put, List.setIfInBounds_toArray, List.set_cons_zero, List.set_cons_succ]; rfl) ?_
  refine wpLex_cons2 _ (uni_val (by rfl) (Op.extract (Operand.tmp 41) 1) rfl (.int .i64 ev) (fun o' ho W _ => by go_simp)) (by simp only [Act.put, List.setIfInBounds_toArray, List.set_cons_zero, List.set_cons_succ]; rfl) ?_
  intro wy hW
  simp only [List.drop_succ_cons, List.drop_zero]
  replace k3 := k3.on hW
  replace k4 := k4.on hW
  replace kl := kl.on hW
  replace be := be.trans (hW.mono (by have := be.size; omega))
  clear hW
  obtain ⟨gkx, hgkx⟩ : ∃ g, wy.heap.size = g := ⟨_, rfl⟩
  refine wpList_newAt rfl 24 rfl (z32.map byt) zero23 gkx hgkx ?_
  simp only [Act.put, List.setIfInBounds_toArray, List.set_cons_zero, List.set_cons_succ]
  have ltk3 := k3.lt
  have ltk4 := k4.lt
  have ltkl := kl.lt
  have kx := Blk.new wy (z32.map byt) 24
  rw [hgkx] at kx ltk3 ltk4 ltkl
  have hsz := be.size
  rw [hgkx, hn] at hsz
  replace k3 := k3.alloc (.cells (z32.map byt).toArray 24)
  replace k4 := k4.alloc (.cells (z32.map byt).toArray 24)
  replace kl := kl.alloc (.cells (z32.map byt).toArray 24)
  replace be := be.alloc (by rw [hgkx]; exact hsz) (.cells (z32.map byt).toArray 24)
  generalize wy.alloc (.cells (z32.map byt).toArray 24) = wv at kx be ⊢ k3 k4 kl
  refine lst_row rfl rfl 24 (.tmp 9) (.tmp 45) rfl gkx (X.map byt) (z32.map byt) 24 rfl rfl kx (key_info lX) (key_len lX) (byts_one _) ?_
  replace kx := kx.setRow (X.map byt)
  replace k3 := k3.setRowOther gkx (X.map byt).toArray (by omega)
  replace k4 := k4.setRowOther gkx (X.map byt).toArray (by omega)
  replace kl := kl.setRowOther gkx (X.map byt).toArray (by omega)
  replace be := below_setRow be gkx (X.map byt).toArray hsz
  generalize wv.setRow gkx (X.map byt).toArray = w40 at kx be ⊢ k3 k4 kl
  clear hgkx hsz ltk3 ltk4 ltkl wv wy wc
  refine lst_val rfl (Op.assign (Operand.tmp 46)) rfl (.int .i64 ev) (fun o' ho => by go_simp) (by simp only [Act.put, List.setIfInBounds_toArray, List.set_cons_zero, List.set_cons_succ]; rfl) ?_
  refine wpList_nil ?_
  go_upto_region 11 with fail
  have hk3 := k3.lt
  have hk4 := k4.lt
  have hkl := kl.lt
  have hkx := kx.lt
  have hbn := be.size
  refine lst_newT 1 rfl rfl rfl rfl 11 rfl 24 rfl (z32.map byt) zero23 rfl rfl (.tmp 47) rfl ?_
  simp only [List.take_succ_cons, List.take_zero]
  refine wpLex_cons2 _ (uni_row rfl 24 (.tmp 4) rfl (g4) (U.map byt) 24 rfl (fun W hW => k4.on hW) Try.underlying24 rfl (key_info lU)) (by simp only [Act.put, List.setIfInBounds_toArray, List.set_cons_zero, List.set_cons_succ]; rfl) ?_
  refine ⟨U.map byt, rfl, by simp, by simp, key_info lU, key_len lU, byts_one _, fun gkp w41 lo hW kp => ?_⟩
  simp only [Act.put, List.setIfInBounds_toArray, List.set_cons_zero, List.set_cons_succ]
  replace k3 := k3.on hW
  replace k4 := k4.on hW
  replace kl := kl.on hW
  replace kx := kx.on hW
  replace be := be.trans (hW.mono (by have := be.size; omega))
  have p3 : g3 < gkp := Nat.lt_of_lt_of_le hk3 lo
  have p4 : g4 < gkp := Nat.lt_of_lt_of_le hk4 lo
  have pl : gl < gkp := Nat.lt_of_lt_of_le hkl lo
  have px : gkx < gkp := Nat.lt_of_lt_of_le hkx lo
  have pn : n ≤ gkp := Nat.le_trans (by omega) lo
  clear hk3 hk4 hkl hkx hbn
  clear hW lo  w40
  go_upto_region 12 with fail
  obtain ⟨a1, ha1⟩ : ∃ a, U.getD 31 0 = a := ⟨_, rfl⟩
  obtain ⟨D, hD⟩ : ∃ D, a1 &&& 127 = D := ⟨_, rfl⟩
  obtain ⟨PLn, hPL⟩ : ∃ L, plL U = L := ⟨_, rfl⟩
  have e3 : U.set 31 D = PLn := by rw [← hPL, ← hD, ← ha1]; rfl
  have lPL : PLn.length = 32 := by rw [← hPL, pl_length, lU]
  rw [hPL] at hB hG
  clear hPL
  have hc : w41.cell? ⟨gkp, 31, none⟩ = some (.int .u8 (a1.toNat : Int)) := by rw [kp.cell, byts_at U 31 (by omega), ha1]
  have hf := kp.frozen 31
  have x1 : bits .and .u8 (a1.toNat : Int) 127 = (D.toNat : Int) := by rw [← hD]; exact uand a1 127 (by decide)
  have H_k3 := hide k3
  have H_k4 := hide k4
  have H_kl := hide kl
  have H_kx := hide kx
  have H_kp := hide kp
  have H_be := hide be
  clear k3 k4 kl kx kp be
  go_upto_region 13 with fail
  clear hc hf x1
  have k3 := H_k3.out
  have k4 := H_k4.out
  have kl := H_kl.out
  have kx := H_kx.out
  have kp := H_kp.out
  have be := H_be.out
  clear H_k3 H_k4 H_kl H_kx H_kp H_be
  replace k3 := k3.setOther (gkp) 31 (.int .u8 (D.toNat : Int)) (by omega)
  replace k4 := k4.setOther (gkp) 31 (.int .u8 (D.toNat : Int)) (by omega)
  replace kl := kl.setOther (gkp) 31 (.int .u8 (D.toNat : Int)) (by omega)
  replace kx := kx.setOther (gkp) 31 (.int .u8 (D.toNat : Int)) (by omega)
  replace kp := kp.set 31 (.int .u8 (D.toNat : Int))
  rw [byt_set, e3] at kp
  replace be : Below n w (w41.setCell ⟨gkp, 31, none⟩ (.int .u8 (D.toNat : Int))) := be.setCell (by show n ≤ gkp; omega) _
  generalize w41.setCell ⟨gkp, 31, none⟩ (.int .u8 (D.toNat : Int)) = w42 at be ⊢ k3 k4 kl kx kp
  clear w41
  clear hD ha1 e3
  have he1 := fun W => eq23 PLn ED lPL lED W
  have he2 := fun W => eq23 PLn EE lPL lEE W
  obtain ⟨q1, hq1⟩ : ∃ q, decide (PLn = ED) = q := ⟨_, rfl⟩
  obtain ⟨q2, hq2⟩ : ∃ q, decide (PLn = EE) = q := ⟨_, rfl⟩
  rw [hq1] at he1
  rw [hq2] at he2
  refine lst_all ?_
  refine wpLex_cons2 _ (uni_row rfl 24 (.tmp 11) rfl (gkp) (PLn.map byt) 24 rfl (fun W hW => kp.on hW) Try.underlying24 rfl (key_info lPL)) (by simp only [Act.put, List.setIfInBounds_toArray, List.set_cons_zero, List.set_cons_succ]; rfl) ?_
  refine wpLex_cons2 _ (uni_buildL (by rfl) 24 [(0, .const (.int .u8 237)), (1, .const (.int .u8 255)), (2, .const (.int .u8 255)), (3, .const (.int .u8 255)), (4, .const (.int .u8 255)), (5, .const (.int .u8 255)), (6, .const (.int .u8 255)), (7, .const (.int .u8 255)), (8, .const (.int .u8 255)), (9, .const (.int .u8 255)), (10, .const (.int .u8 255)), (11, .const (.int .u8 255)), (12, .const (.int .u8 255)), (13, .const (.int .u8 255)), (14, .const (.int .u8 255)), (15, .const (.int .u8 255)), (16, .const (.int .u8 255)), (17, .const (.int .u8 255)), (18, .const (.int .u8 255)), (19, .const (.int .u8 255)), (20, .const (.int .u8 255)), (21, .const (.int .u8 255)), (22, .const (.int .u8 255)), (23, .const (.int .u8 255)), (24, .const (.int .u8 255)), (25, .const (.int .u8 255)), (26, .const (.int .u8 255)), (27, .const (.int .u8 255)), (28, .const (.int .u8 255)), (29, .const (.int .u8 255)), (30, .const (.int .u8 255)), (31, .const (.int .u8 127))] rfl [(0, .int .u8 237), (1, .int .u8 255), (2, .int .u8 255), (3, .int .u8 255), (4, .int .u8 255), (5, .int .u8 255), (6, .int .u8 255), (7, .int .u8 255), (8, .int .u8 255), (9, .int .u8 255), (10, .int .u8 255), (11, .int .u8 255), (12, .int .u8 255), (13, .int .u8 255), (14, .int .u8 255), (15, .int .u8 255), (16, .int .u8 255), (17, .int .u8 255), (18, .int .u8 255), (19, .int .u8 255), (20, .int .u8 255), (21, .int .u8 255), (22, .int .u8 255), (23, .int .u8 255), (24, .int .u8 255), (25, .int .u8 255), (26, .int .u8 255), (27, .int .u8 255), (28, .int .u8 255), (29, .int .u8 255), (30, .int .u8 255), (31, .int .u8 127)] rfl (.agg (ED.map byt).toArray) bED) (by simp only [Act.put, List.setIfInBounds_toArray, List.set_cons_zero, List.set_cons_succ]; rfl) ?_
  refine wpLex_cons2 _ (uni_val (by rfl) (Op.binOp BinOp.eql 24 (Operand.tmp 52) (Operand.tmp 53) 24) rfl (.bool q1) (fun o' ho W _ => by have hg := guard24; go_simp)) (by simp only [Act.put, List.setIfInBounds_toArray, List.set_cons_zero, List.set_cons_succ]; rfl) ?_
  refine wpLex_cons2 _ (uni_val (by rfl) (Op.assign (Operand.tmp 54)) rfl (.bool q1) (fun o' ho W _ => by go_simp)) (by simp only [Act.put, List.setIfInBounds_toArray, List.set_cons_zero, List.set_cons_succ]; rfl) ?_
  intro w43 hW
  replace k3 := k3.on hW
  replace k4 := k4.on hW
  replace kl := kl.on hW
  replace kx := kx.on hW
  replace kp := kp.on hW
  replace be := be.trans (hW.mono (by have := be.size; omega))
  clear hW w42
  have hb0 : badF ED EE KK PLn 0 = if q1 = true then true else q2 := by rw [badF, hq1, hq2]
  clear hq1 hq2 he1
  go_upto_region 14 with fail
  have hst : Hid (Lw2 n w w43 g3 g4 gl gkx gkp LC k U X PLn) := ⟨k3, k4, kl, kx, kp, be, by omega⟩
  clear k3 k4 kl kx kp be
  go_cut [12] (fun v wx => v = .bool (badF ED EE KK PLn 0) ∧ Hid (Lw2 n w wx g3 g4 gl gkx gkp LC k U X PLn))
  case first =>
    cases q1 with
    | true =>
      obtain ⟨k3, k4, kl, kx, kp, be, nn⟩ := hst.out
      refine lst_all ?_
      refine wpLex_cons2 _ (uni_val (by rfl) (Op.move (Operand.tmp 12)) rfl (.bool true) (fun o' ho W _ => by go_simp)) (by simp only [Act.put, List.setIfInBounds_toArray, List.set_cons_zero, List.set_cons_succ]; rfl) ?_
      refine wpLex_cons2 _ (uni_val (by rfl) (Op.move (Operand.tmp 55)) rfl (.bool true) (fun o' ho W _ => by go_simp)) (by simp only [Act.put, List.setIfInBounds_toArray, List.set_cons_zero, List.set_cons_succ]; rfl) ?_
      refine wpLex_cons2 _ (uni_skip (by rfl)) (by simp only [Act.put, List.setIfInBounds_toArray, List.set_cons_zero, List.set_cons_succ]; rfl) ?_
      refine wpLex_cons2 _ (uni_skip (by rfl)) (by simp only [Act.put, List.setIfInBounds_toArray, List.set_cons_zero, List.set_cons_succ]; rfl) ?_
      refine wpLex_cons2 _ (uni_skip (by rfl)) (by simp only [Act.put, List.setIfInBounds_toArray, List.set_cons_zero, List.set_cons_succ]; rfl) ?_
      refine wpLex_cons2 _ (uni_val (by rfl) (Op.pick (Operand.tmp 56) (Operand.const (Value.bool true)) (Operand.tmp 59)) rfl (.bool true) (fun o' ho W _ => by go_simp)) (by simp only [Act.put, List.setIfInBounds_toArray, List.set_cons_zero, List.set_cons_succ]; rfl) ?_
      refine wpLex_cons2 _ (uni_val (by rfl) (Op.assign (Operand.tmp 60)) rfl (.bool true) (fun o' ho W _ => by go_simp)) (by simp only [Act.put, List.setIfInBounds_toArray, List.set_cons_zero, List.set_cons_succ]; rfl) ?_
      intro wx hW
      go_wp2
      go_meet
      case rel => exact ⟨by rw [hb0]; simp, (Lw2.mk k3 k4 kl kx kp be nn).on hW⟩
    | false =>
      obtain ⟨k3, k4, kl, kx, kp, be, nn⟩ := hst.out
      refine lst_all ?_
      refine wpLex_cons2 _ (uni_val (by rfl) (Op.move (Operand.tmp 12)) rfl (.bool false) (fun o' ho W _ => by go_simp)) (by simp only [Act.put, List.setIfInBounds_toArray, List.set_cons_zero, List.set_cons_succ]; rfl) ?_
      refine wpLex_cons2 _ (uni_val (by rfl) (Op.move (Operand.tmp 55)) rfl (.bool false) (fun o' ho W _ => by go_simp)) (by simp only [Act.put, List.setIfInBounds_toArray, List.set_cons_zero, List.set_cons_succ]; rfl) ?_
      refine wpLex_cons2 _ (uni_rowG (by rfl) 24 (.tmp 11) rfl (gkp) (PLn.map byt) 24 rfl (fun W hW => kp.on hW) Try.underlying24 rfl (key_info lPL)) (by simp only [Act.put, List.setIfInBounds_toArray, List.set_cons_zero, List.set_cons_succ]; rfl) ?_
      refine wpLex_cons2 _ (uni_buildL (by rfl) 24 [(0, .const (.int .u8 238)), (1, .const (.int .u8 255)), (2, .const (.int .u8 255)), (3, .const (.int .u8 255)), (4, .const (.int .u8 255)), (5, .const (.int .u8 255)), (6, .const (.int .u8 255)), (7, .const (.int .u8 255)), (8, .const (.int .u8 255)), (9, .const (.int .u8 255)), (10, .const (.int .u8 255)), (11, .const (.int .u8 255)), (12, .const (.int .u8 255)), (13, .const (.int .u8 255)), (14, .const (.int .u8 255)), (15, .const (.int .u8 255)), (16, .const (.int .u8 255)), (17, .const (.int .u8 255)), (18, .const (.int .u8 255)), (19, .const (.int .u8 255)), (20, .const (.int .u8 255)), (21, .const (.int .u8 255)), (22, .const (.int .u8 255)), (23, .const (.int .u8 255)), (24, .const (.int .u8 255)), (25, .const (.int .u8 255)), (26, .const (.int .u8 255)), (27, .const (.int .u8 255)), (28, .const (.int .u8 255)), (29, .const (.int .u8 255)), (30, .const (.int .u8 255)), (31, .const (.int .u8 127))] rfl [(0, .int .u8 238), (1, .int .u8 255), (2, .int .u8 255), (3, .int .u8 255), (4, .int .u8 255), (5, .int .u8 255), (6, .int .u8 255), (7, .int .u8 255), (8, .int .u8 255), (9, .int .u8 255), (10, .int .u8 255), (11, .int .u8 255), (12, .int .u8 255), (13, .int .u8 255), (14, .int .u8 255), (15, .int .u8 255), (16, .int .u8 255), (17, .int .u8 255), (18, .int .u8 255), (19, .int .u8 255), (20, .int .u8 255), (21, .int .u8 255), (22, .int .u8 255), (23, .int .u8 255), (24, .int .u8 255), (25, .int .u8 255), (26, .int .u8 255), (27, .int .u8 255), (28, .int .u8 255), (29, .int .u8 255), (30, .int .u8 255), (31, .int .u8 127)] rfl (.agg (EE.map byt).toArray) bEE) (by simp only [Act.put, List.setIfInBounds_toArray, List.set_cons_zero, List.set_cons_succ]; rfl) ?_
      refine wpLex_cons2 _ (uni_val (by rfl) (Op.binOp BinOp.eql 24 (Operand.tmp 57) (Operand.tmp 58) 24) rfl (.bool q2) (fun o' ho W _ => by have hg := guard24; go_simp)) (by simp only [Act.put, List.setIfInBounds_toArray, List.set_cons_zero, List.set_cons_succ]; rfl) ?_
      refine wpLex_cons2 _ (uni_val (by rfl) (Op.pick (Operand.tmp 56) (Operand.const (Value.bool true)) (Operand.tmp 59)) rfl (.bool q2) (fun o' ho W _ => by go_simp)) (by simp only [Act.put, List.setIfInBounds_toArray, List.set_cons_zero, List.set_cons_succ]; rfl) ?_
      refine wpLex_cons2 _ (uni_val (by rfl) (Op.assign (Operand.tmp 60)) rfl (.bool q2) (fun o' ho W _ => by go_simp)) (by simp only [Act.put, List.setIfInBounds_toArray, List.set_cons_zero, List.set_cons_succ]; rfl) ?_
      intro wx hW
      go_wp2
      go_meet
      case rel => exact ⟨by rw [hb0]; simp, (Lw2.mk k3 k4 kl kx kp be nn).on hW⟩
  case rest =>
  obtain ⟨rfl, hs1⟩ := hcut
  clear hst hb0 he2
  go_wp2
  go_loopw [13, 12] (fun i v wr => ∃ t : Nat, t ≤ 5 ∧ i = .int .i64 t ∧ v = .bool (badF ED EE KK PLn t) ∧ Hid (Lw2 n w wr g3 g4 gl gkx gkp LC k U X PLn)) (fun i _ _ => 5 - (intOf i).toNat)
  case atStart => exact ⟨0, by omega, rfl, rfl, hs1⟩
  case round =>
    obtain ⟨t, ht, rfl, rfl, hs⟩ := hrel
    obtain ⟨bt, hbt⟩ : ∃ v, badF ED EE KK PLn t = v := ⟨_, rfl⟩
    rw [hbt]
    have hnx : badF ED EE KK PLn (t + 1) = if bt = true then true else decide (PLn = KK t) := by rw [badF, hbt]
    by_cases hlt : t < 5
    · have hlz : (t : Int) < 5 := by omega
      have lV := lKK t
      have hV := HAT.out t hlt
      obtain ⟨V, hKV⟩ : ∃ V, KK t = V := ⟨_, rfl⟩
      rw [hKV] at lV hV hnx
      have he := fun W => eq23 PLn V lPL lV W
      obtain ⟨q, hq⟩ : ∃ q, decide (PLn = V) = q := ⟨_, rfl⟩
      rw [hq] at he hnx
      clear hq hKV hbt
      cases bt with
      | true =>
        go_upto_region 18 with fail
        refine reg_all (by kernel_rfl) (by kernel_rfl) ?_
        refine wpLex_cons2 _ (uni_val (by rfl) (Op.move (Operand.tmp 12)) rfl (.bool true) (fun o' ho W _ => by go_simp)) (by simp only [Act.put, List.setIfInBounds_toArray, List.set_cons_zero, List.set_cons_succ]; rfl) ?_
        refine wpLex_cons2 _ (uni_val (by rfl) (Op.move (Operand.tmp 67)) rfl (.bool true) (fun o' ho W _ => by go_simp)) (by simp only [Act.put, List.setIfInBounds_toArray, List.set_cons_zero, List.set_cons_succ]; rfl) ?_
        refine wpLex_cons2 _ (uni_skip (by rfl)) (by simp only [Act.put, List.setIfInBounds_toArray, List.set_cons_zero, List.set_cons_succ]; rfl) ?_
        refine wpLex_cons2 _ (uni_skip (by rfl)) (by simp only [Act.put, List.setIfInBounds_toArray, List.set_cons_zero, List.set_cons_succ]; rfl) ?_
        refine wpLex_cons2 _ (uni_skip (by rfl)) (by simp only [Act.put, List.setIfInBounds_toArray, List.set_cons_zero, List.set_cons_succ]; rfl) ?_
        refine wpLex_cons2 _ (uni_skip (by rfl)) (by simp only [Act.put, List.setIfInBounds_toArray, List.set_cons_zero, List.set_cons_succ]; rfl) ?_
        refine wpLex_cons2 _ (uni_skip (by rfl)) (by simp only [Act.put, List.setIfInBounds_toArray, List.set_cons_zero, List.set_cons_succ]; rfl) ?_
        refine wpLex_cons2 _ (uni_skip (by rfl)) (by simp only [Act.put, List.setIfInBounds_toArray, List.set_cons_zero, List.set_cons_succ]; rfl) ?_
        refine wpLex_cons2 _ (uni_val (by rfl) (Op.pick (Operand.tmp 68) (Operand.const (Value.bool true)) (Operand.tmp 74)) rfl (.bool true) (fun o' ho W _ => by go_simp)) (by simp only [Act.put, List.setIfInBounds_toArray, List.set_cons_zero, List.set_cons_succ]; rfl) ?_
        refine wpLex_cons2 _ (uni_val (by rfl) (Op.assign (Operand.tmp 75)) rfl (.bool true) (fun o' ho W _ => by go_simp)) (by simp only [Act.put, List.setIfInBounds_toArray, List.set_cons_zero, List.set_cons_succ]; rfl) ?_
        intro wx hW
        have hs9 := hide (hs.out.on hW)
        clear hW
        go_wp2
        go_roundw
        case rel => exact ⟨t + 1, by omega, by go_num, by rw [hnx]; simp, hs9⟩
        case measure => simp [intOf]; omega
      | false =>
        go_upto_region 18 with fail
        refine reg_all (by kernel_rfl) (by kernel_rfl) ?_
        refine wpLex_cons2 _ (uni_val (by rfl) (Op.move (Operand.tmp 12)) rfl (.bool false) (fun o' ho W _ => by go_simp)) (by simp only [Act.put, List.setIfInBounds_toArray, List.set_cons_zero, List.set_cons_succ]; rfl) ?_
        refine wpLex_cons2 _ (uni_val (by rfl) (Op.move (Operand.tmp 67)) rfl (.bool false) (fun o' ho W _ => by go_simp)) (by simp only [Act.put, List.setIfInBounds_toArray, List.set_cons_zero, List.set_cons_succ]; rfl) ?_
        refine wpLex_cons2 _ (uni_rowG (by rfl) 24 (.tmp 11) rfl (gkp) (PLn.map byt) 24 rfl (fun W hW => hs.out.kp.on hW) Try.underlying24 rfl (key_info lPL)) (by simp only [Act.put, List.setIfInBounds_toArray, List.set_cons_zero, List.set_cons_succ]; rfl) ?_
        refine wpLex_cons2 _ (uni_val (by rfl) (Op.move (Operand.tmp 7)) rfl (.slice (some ⟨gl, 0, none⟩) 5 5) (fun o' ho W _ => by go_simp)) (by simp only [Act.put, List.setIfInBounds_toArray, List.set_cons_zero, List.set_cons_succ]; rfl) ?_
        refine wpLex_cons2 _ (uni_val (by rfl) (Op.move (Operand.tmp 13)) rfl (.int .i64 (t : Int)) (fun o' ho W _ => by go_simp)) (by simp only [Act.put, List.setIfInBounds_toArray, List.set_cons_zero, List.set_cons_succ]; rfl) ?_
        refine wpLex_cons2 _ (uni_val (by rfl) (Op.indexAddr 41 (Operand.tmp 70) (Operand.tmp 71)) rfl (.pointer (some ⟨gl, t * 32, none⟩)) (fun o' ho W _ => by go_simp)) (by simp only [Act.put, List.setIfInBounds_toArray, List.set_cons_zero, List.set_cons_succ]; rfl) ?_
        refine wpLex_cons2 _ (uni_midG (by rfl) 24 (.tmp 72) rfl gl (t * 32) (V.map byt) rfl (fun W hW => (hs.out.kl.on hW).range hV) Try.underlying24 rfl (key_info lV)) (by simp only [Act.put, List.setIfInBounds_toArray, List.set_cons_zero, List.set_cons_succ]; rfl) ?_
        refine wpLex_cons2 _ (uni_val (by rfl) (Op.binOp BinOp.eql 24 (Operand.tmp 69) (Operand.tmp 73) 24) rfl (.bool q) (fun o' ho W _ => by have hg := guard24; go_simp)) (by simp only [Act.put, List.setIfInBounds_toArray, List.set_cons_zero, List.set_cons_succ]; rfl) ?_
        refine wpLex_cons2 _ (uni_val (by rfl) (Op.pick (Operand.tmp 68) (Operand.const (Value.bool true)) (Operand.tmp 74)) rfl (.bool q) (fun o' ho W _ => by go_simp)) (by simp only [Act.put, List.setIfInBounds_toArray, List.set_cons_zero, List.set_cons_succ]; rfl) ?_
        refine wpLex_cons2 _ (uni_val (by rfl) (Op.assign (Operand.tmp 75)) rfl (.bool q) (fun o' ho W _ => by go_simp)) (by simp only [Act.put, List.setIfInBounds_toArray, List.set_cons_zero, List.set_cons_succ]; rfl) ?_
        intro wx hW
        have hs9 := hide (hs.out.on hW)
        clear hW
        go_wp2
        go_roundw
        case rel => exact ⟨t + 1, by omega, by go_num, by rw [hnx]; simp, hs9⟩
        case measure => simp [intOf]; omega
    · obtain rfl : t = 5 := by omega
      rw [hbt] at hB hG
      clear hnx
      go_upto_region 19 with fail
      obtain ⟨k3, k4, kl, kx, kp, be, nn⟩ := hs.out
      clear hs hs1
      refine lst_all ?_
      refine wpLex_cons2 _ (uni_callF (by rfl) 9 [] #[] rfl [] (.bool true) rfl enter9 (fun W hW => fixed_any W)) (by simp only [Act.put, List.setIfInBounds_toArray, List.set_cons_zero, List.set_cons_succ]; rfl) ?_
      refine wpLex_cons2 _ (uni_val (by rfl) (Op.assign (Operand.tmp 76)) rfl ((.bool true)) (fun o' ho W _ => by go_simp)) (by simp only [Act.put, List.setIfInBounds_toArray, List.set_cons_zero, List.set_cons_succ]; rfl) ?_
      intro w60 hW
      replace k3 := k3.on hW
      replace k4 := k4.on hW
      replace kl := kl.on hW
      replace kx := kx.on hW
      replace kp := kp.on hW
      replace be := be.trans (hW.mono (by have := be.size; omega))
      clear hW wr
      cases bt with
      | true =>
        obtain ⟨hE, hXZ⟩ := hB rfl
        subst hE hXZ
        have he := fun W => eq23 X X lX lX W
        rw [decide_eq_true rfl] at he
        go_upto_region 21 with fail
        refine lst_all ?_
        refine wpLex_cons2 _ (uni_val (by rfl) (Op.move (Operand.tmp 14)) rfl ((.bool true)) (fun o' ho W _ => by go_simp)) (by simp only [Act.put, List.setIfInBounds_toArray, List.set_cons_zero, List.set_cons_succ]; rfl) ?_
        refine wpLex_cons2 _ (uni_val (by rfl) (Op.move (Operand.tmp 78)) rfl ((.bool true)) (fun o' ho W _ => by go_simp)) (by simp only [Act.put, List.setIfInBounds_toArray, List.set_cons_zero, List.set_cons_succ]; rfl) ?_
        refine wpLex_cons2 _ (uni_val (by rfl) (Op.move (Operand.tmp 10)) rfl (.int .i64 70) (fun o' ho W _ => by go_simp)) (by simp only [Act.put, List.setIfInBounds_toArray, List.set_cons_zero, List.set_cons_succ]; rfl) ?_
        refine wpLex_cons2 _ (uni_val (by rfl) (Op.binOp BinOp.eql 30 (Operand.tmp 80) (Operand.const (Value.int IntKind.i64 70)) 30) rfl (.bool true) (fun o' ho W _ => by go_simp)) (by simp only [Act.put, List.setIfInBounds_toArray, List.set_cons_zero, List.set_cons_succ]; rfl) ?_
        refine wpLex_cons2 _ (uni_val (by rfl) (Op.pick (Operand.tmp 79) (Operand.tmp 81) (Operand.const (Value.bool false))) rfl (.bool true) (fun o' ho W _ => by go_simp)) (by simp only [Act.put, List.setIfInBounds_toArray, List.set_cons_zero, List.set_cons_succ]; rfl) ?_
        refine wpLex_cons2 _ (uni_val (by rfl) (Op.move (Operand.tmp 82)) rfl (.bool true) (fun o' ho W _ => by go_simp)) (by simp only [Act.put, List.setIfInBounds_toArray, List.set_cons_zero, List.set_cons_succ]; rfl) ?_
        refine wpLex_cons2 _ (uni_rowG (by rfl) 24 (.tmp 9) rfl (gkx) (X.map byt) 24 rfl (fun W hW => kx.on hW) Try.underlying24 rfl (key_info lX)) (by simp only [Act.put, List.setIfInBounds_toArray, List.set_cons_zero, List.set_cons_succ]; rfl) ?_
        refine wpLex_cons2 _ (uni_build0 (by rfl) 24 rfl (.agg (X.map byt).toArray) bz) (by simp only [Act.put, List.setIfInBounds_toArray, List.set_cons_zero, List.set_cons_succ]; rfl) ?_
        refine wpLex_cons2 _ (uni_val (by rfl) (Op.binOp BinOp.eql 24 (Operand.tmp 84) (Operand.tmp 85) 24) rfl (.bool true) (fun o' ho W _ => by have hg := guard24; go_simp)) (by simp only [Act.put, List.setIfInBounds_toArray, List.set_cons_zero, List.set_cons_succ]; rfl) ?_
        refine wpLex_cons2 _ (uni_val (by rfl) (Op.pick (Operand.tmp 83) (Operand.tmp 86) (Operand.const (Value.bool false))) rfl (.bool true) (fun o' ho W _ => by go_simp)) (by simp only [Act.put, List.setIfInBounds_toArray, List.set_cons_zero, List.set_cons_succ]; rfl) ?_
        refine wpLex_cons2 _ (uni_val (by rfl) (Op.assign (Operand.tmp 87)) rfl (.bool true) (fun o' ho W _ => by go_simp)) (by simp only [Act.put, List.setIfInBounds_toArray, List.set_cons_zero, List.set_cons_succ]; rfl) ?_
        intro w61 hW
        replace k3 := k3.on hW
        replace k4 := k4.on hW
        replace kl := kl.on hW
        replace kx := kx.on hW
        replace kp := kp.on hW
        replace be := be.trans (hW.mono (by have := be.size; omega))
        clear hW w60
        go_wp2
        go_ret
        exact ⟨rfl, by first | (rw [hn]; exact be) | exact be⟩
      | false =>
        obtain ⟨hE, hXZ⟩ := hG rfl
        subst hE
        have he := fun W => eq23 X X lX lX W
        rw [decide_eq_true rfl] at he
        have hz := fun W => eq23 X Z lX lZ W
        rw [decide_eq_false hXZ] at hz
        clear hXZ
        go_upto_region 22 with fail
        refine reg_all (by kernel_rfl) (by kernel_rfl) ?_
        refine wpLex_cons2 _ (uni_val (by rfl) (Op.move (Operand.tmp 14)) rfl ((.bool true)) (fun o' ho W _ => by go_simp)) (by simp only [Act.put, List.setIfInBounds_toArray, List.set_cons_zero, List.set_cons_succ]; rfl) ?_
        refine wpLex_cons2 _ (uni_val (by rfl) (Op.move (Operand.tmp 88)) rfl ((.bool true)) (fun o' ho W _ => by go_simp)) (by simp only [Act.put, List.setIfInBounds_toArray, List.set_cons_zero, List.set_cons_succ]; rfl) ?_
        refine wpLex_cons2 _ (uni_val (by rfl) (Op.move (Operand.tmp 10)) rfl (.int .i64 0) (fun o' ho W _ => by go_simp)) (by simp only [Act.put, List.setIfInBounds_toArray, List.set_cons_zero, List.set_cons_succ]; rfl) ?_
        refine wpLex_cons2 _ (uni_val (by rfl) (Op.binOp BinOp.eql 30 (Operand.tmp 90) (Operand.const (Value.int IntKind.i64 0)) 30) rfl (.bool true) (fun o' ho W _ => by go_simp)) (by simp only [Act.put, List.setIfInBounds_toArray, List.set_cons_zero, List.set_cons_succ]; rfl) ?_
        refine wpLex_cons2 _ (uni_val (by rfl) (Op.pick (Operand.tmp 89) (Operand.tmp 91) (Operand.const (Value.bool false))) rfl (.bool true) (fun o' ho W _ => by go_simp)) (by simp only [Act.put, List.setIfInBounds_toArray, List.set_cons_zero, List.set_cons_succ]; rfl) ?_
        refine wpLex_cons2 _ (uni_val (by rfl) (Op.move (Operand.tmp 92)) rfl (.bool true) (fun o' ho W _ => by go_simp)) (by simp only [Act.put, List.setIfInBounds_toArray, List.set_cons_zero, List.set_cons_succ]; rfl) ?_
        refine wpLex_cons2 _ (uni_rowG (by rfl) 24 (.tmp 9) rfl (gkx) (X.map byt) 24 rfl (fun W hW => kx.on hW) Try.underlying24 rfl (key_info lX)) (by simp only [Act.put, List.setIfInBounds_toArray, List.set_cons_zero, List.set_cons_succ]; rfl) ?_
        refine wpLex_cons2 _ (uni_rowG (by rfl) 24 (.tmp 3) rfl (g3) (k.map byt) 24 rfl (fun W hW => k3.on hW) Try.underlying24 rfl (key_info lk)) (by simp only [Act.put, List.setIfInBounds_toArray, List.set_cons_zero, List.set_cons_succ]; rfl) ?_
        refine wpLex_cons2 _ (uni_rowG (by rfl) 24 (.tmp 4) rfl (g4) (U.map byt) 24 rfl (fun W hW => k4.on hW) Try.underlying24 rfl (key_info lU)) (by simp only [Act.put, List.setIfInBounds_toArray, List.set_cons_zero, List.set_cons_succ]; rfl) ?_
        refine wpLex_cons2 _ (uni_callF (by rfl) 10 [Operand.tmp 95, Operand.tmp 96] #[24, 24] rfl [.agg (k.map byt).toArray, .agg (U.map byt).toArray] (.agg (X.map byt).toArray) rfl enter10 (fun W hW => ct W)) (by simp only [Act.put, List.setIfInBounds_toArray, List.set_cons_zero, List.set_cons_succ]; rfl) ?_
        refine wpLex_cons2 _ (uni_val (by rfl) (Op.binOp BinOp.eql 24 (Operand.tmp 94) (Operand.tmp 97) 24) rfl (.bool true) (fun o' ho W _ => by have hg := guard24; go_simp)) (by simp only [Act.put, List.setIfInBounds_toArray, List.set_cons_zero, List.set_cons_succ]; rfl) ?_
        refine wpLex_cons2 _ (uni_val (by rfl) (Op.pick (Operand.tmp 93) (Operand.tmp 98) (Operand.const (Value.bool false))) rfl (.bool true) (fun o' ho W _ => by go_simp)) (by simp only [Act.put, List.setIfInBounds_toArray, List.set_cons_zero, List.set_cons_succ]; rfl) ?_
        refine wpLex_cons2 _ (uni_val (by rfl) (Op.move (Operand.tmp 99)) rfl (.bool true) (fun o' ho W _ => by go_simp)) (by simp only [Act.put, List.setIfInBounds_toArray, List.set_cons_zero, List.set_cons_succ]; rfl) ?_
        refine wpLex_cons2 _ (uni_rowG (by rfl) 24 (.tmp 9) rfl (gkx) (X.map byt) 24 rfl (fun W hW => kx.on hW) Try.underlying24 rfl (key_info lX)) (by simp only [Act.put, List.setIfInBounds_toArray, List.set_cons_zero, List.set_cons_succ]; rfl) ?_
        refine wpLex_cons2 _ (uni_build0 (by rfl) 24 rfl (.agg (Z.map byt).toArray) bz) (by simp only [Act.put, List.setIfInBounds_toArray, List.set_cons_zero, List.set_cons_succ]; rfl) ?_
        refine wpLex_cons2 _ (uni_val (by rfl) (Op.binOp BinOp.neq 24 (Operand.tmp 101) (Operand.tmp 102) 24) rfl (.bool true) (fun o' ho W _ => by have hg := guard24; go_simp)) (by simp only [Act.put, List.setIfInBounds_toArray, List.set_cons_zero, List.set_cons_succ]; rfl) ?_
        refine wpLex_cons2 _ (uni_val (by rfl) (Op.pick (Operand.tmp 100) (Operand.tmp 103) (Operand.const (Value.bool false))) rfl (.bool true) (fun o' ho W _ => by go_simp)) (by simp only [Act.put, List.setIfInBounds_toArray, List.set_cons_zero, List.set_cons_succ]; rfl) ?_
        refine wpLex_cons2 _ (uni_val (by rfl) (Op.assign (Operand.tmp 104)) rfl (.bool true) (fun o' ho W _ => by go_simp)) (by simp only [Act.put, List.setIfInBounds_toArray, List.set_cons_zero, List.set_cons_succ]; rfl) ?_
        intro w62 hW
        replace k3 := k3.on hW
        replace k4 := k4.on hW
        replace kl := kl.on hW
        replace kx := kx.on hW
        replace kp := kp.on hW
        replace be := be.trans (hW.mono (by have := be.size; omega))
        clear hW w60
        go_wp2
        go_ret
        exact ⟨rfl, by first | (rw [hn]; exact be) | exact be⟩
end Go.Proofs.Ytacancfmgnmpiaa
