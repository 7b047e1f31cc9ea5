import Derived.Test.YtoceepmehmacbaaDoorKLzG
set_option linter.unusedVariables false
set_option linter.unusedSimpArgs false
namespace Go.Proofs.YtoceepmehmacbaaDoor
open Go.RowKit

theorem EW.join {P : Program} {n : Nat} {Q : Exit → Act → World → Prop} {e : List (Nat × Value)} {w : World} {α : Type} {x y : Code} (E : α → List (Nat × Value)) (R : α → World → Prop) (h : EW P n x (Exit.then (fun a w => ∃ d, Env n a (E d) ∧ R d w) Q) e w) (k : ∀ d w, R d w → EW P n y Q (E d) w) : EW P n (.seq x y) Q e w :=
  EW.seq (fun a ha => wp_mono (h a ha) (fun ex a' w' hq => by
    cases ex with
    | normal =>
      obtain ⟨d, h1, h2⟩ := hq
      exact k d w' h2 a' h1
    | _ => exact hq))
theorem EW.met {n : Nat} {Q : Exit → Act → World → Prop} {e : List (Nat × Value)} {w : World} {α : Type} {E : α → List (Nat × Value)} {R : α → World → Prop} (d : α) (l : List Nat) (he : keepE e l = E d) (hR : R d w) : ∀ a, Env n a e → Exit.then (fun a w => ∃ d, Env n a (E d) ∧ R d w) Q .normal a w := fun a ha => ⟨d, by rw [← he]; exact ha.less (keepE_sub e l), hR⟩
theorem rem_i (a b : Int) (h : b ≠ 0) {c : Int} (hc : Int.tmod a b = c) (W : World) (x y : Operand) : (do eqGuard .rem 3 x y (.int .i64 a) (.int .i64 b); binOp .rem 3 (.int .i64 a) (.int .i64 b) : Sem Value).run Tryd.prog W = .ok (.int .i64 c) W := by
  subst hc
  go_simp
theorem and_i (a : Int) (W : World) (x y : Operand) : ∃ c : Int, (do eqGuard .and 3 x y (.int .i64 a) (.int .i64 1); binOp .and 3 (.int .i64 a) (.int .i64 1) : Sem Value).run Tryd.prog W = .ok (.int .i64 c) W := by
  refine ⟨bits .and .i64 a 1, ?_⟩
  go_simp
section
variable {P : Program} {n : Nat} {ops : Array Oper} {S : Nat → World → Prop} {K : List (Nat × Value) → (World → Prop) → Prop} {i c lv : Nat} {ty : TypeId} {ps : String} {af : Array Edge} {gd : Option (Nat × Bool)} {r : List (Oper × Nat × Nat)} {e : List (Nat × Value)} {C : World → Prop}
theorem ZE.fieldV {t : TypeId} {x : Operand} {j : Nat} {u v : Value} (h1 : decide (c = 1) = false) (hw : wantE ops e ⟨some i, .field t x j, ty, ps, af, gd⟩ = some true) (hi : decide (i < n) = true) (hx : evE e x = some u) (hc : ∀ w, C w → SZ S c lv C w) (hr : ∀ w, (Instr.field t u j).run P w = .ok v w) (k : wpZE P n ops S K r ((i, v) :: e) C) : wpZE P n ops S K ((⟨some i, .field t x j, ty, ps, af, gd⟩, c, lv) :: r) e C :=
  ZE.val h1 hw hi hc (fun a ha W hW => by simp [execOp, ha.ev hx, hr W, Result.andThen]) k
end
theorem fv35_0 {A : An} (kA : A.ok) (W : World) : (Instr.field 35 A.v 0).run Tryd.prog W = .ok (kv A.s) W := by
  have h0 := part_row (ty := 23) (cs := A.cs) (a := []) (b := A.i.map byt ++ (A.b.map byt ++ (A.h.cs ++ [.int .i64 A.e]))) (m := A.s.map byt) (o := 0) Tryd.isAgg23 (sz23 kA.s) rfl rfl W
  show _ = Result.ok (Value.agg _) W
  simpa [Instr.field, run_underlying Tryd.underlying35, An.v, asAgg] using h0
theorem Blk.stF {w : World} {q o : Nat} {cs a m b : List Value} {t : TypeId} (hb : Blk w q cs t) {K : List UInt8} (hK : K.length = 32) (hc : cs = a ++ (m ++ b)) (ho : a.length = o) (hm : m.length = 32) : ∃ w', (Instr.storeAt 23 (.pointer (some ⟨q, o, none⟩)) (kv K)).run Tryd.prog w = .ok () w' ∧ Blk w' q (a ++ (K.map byt ++ b)) t ∧ Fx (fun k => k = q) w w' :=
  hb.stA (i23 hK) (bytsOne K) hc ho (by rw [hm, List.length_map, hK])
theorem stOf0 {w : World} {q : Nat} {o : Of} {t : TypeId} (hb : Blk w q o.cs t) (h : o.ok) {K : List UInt8} (hK : K.length = 32) : ∃ w', (Instr.storeAt 23 (.pointer (some ⟨q, 0 + 0, none⟩)) (kv K)).run Tryd.prog w = .ok () w' ∧ Blk w' q (Of.cs ⟨K, o.pre, o.key⟩) t ∧ Fx (fun k => k = q) w w' :=
  hb.stF hK (a := []) (m := o.id.map byt) (b := [u32v o.pre] ++ o.key.map byt) rfl rfl (by simp [h.i])
theorem stOf2 {w : World} {q : Nat} {o : Of} {t : TypeId} (hb : Blk w q o.cs t) (h : o.ok) {K : List UInt8} (hK : K.length = 32) : ∃ w', (Instr.storeAt 23 (.pointer (some ⟨q, 0 + 33, none⟩)) (kv K)).run Tryd.prog w = .ok () w' ∧ Blk w' q (Of.cs ⟨o.id, o.pre, K⟩) t ∧ Fx (fun k => k = q) w w' := by
  obtain ⟨w', h1, h2, h3⟩ := hb.stF hK (a := o.id.map byt ++ [u32v o.pre]) (m := o.key.map byt) (b := []) (o := 0 + 33) (by simp [Of.cs]) (by simp [h.i]) (by simp [h.k])
  exact ⟨w', h1, by simpa [Of.cs] using h2, h3⟩
theorem stOfP {w : World} {q : Nat} {o : Of} {t : TypeId} (hb : Blk w q o.cs t) (h : o.ok) (n : Nat) : ∃ w', (Instr.storeAt 26 (.pointer (some ⟨q, 0 + 32, none⟩)) (u32v n)).run Tryd.prog w = .ok () w' ∧ Blk w' q (Of.cs ⟨o.id, n, o.key⟩) t ∧ Fx (fun k => k = q) w w' :=
  hb.stU (a := o.id.map byt) (b := o.key.map byt) rfl (by simp [h.i]) n
theorem stHl0 {w : World} {q : Nat} {o : Hl} {t : TypeId} (hb : Blk w q o.cs t) (h : o.ok) {K : List UInt8} (hK : K.length = 32) : ∃ w', (Instr.storeAt 23 (.pointer (some ⟨q, 0 + 0, none⟩)) (kv K)).run Tryd.prog w = .ok () w' ∧ Blk w' q (Hl.cs ⟨K, o.once, o.pre⟩) t ∧ Fx (fun k => k = q) w w' :=
  hb.stF hK (a := []) (m := o.id.map byt) (b := o.once.map byt ++ [u32v o.pre]) rfl rfl (by simp [h.i])
theorem stHl1 {w : World} {q : Nat} {o : Hl} {t : TypeId} (hb : Blk w q o.cs t) (h : o.ok) {K : List UInt8} (hK : K.length = 32) : ∃ w', (Instr.storeAt 23 (.pointer (some ⟨q, 0 + 32, none⟩)) (kv K)).run Tryd.prog w = .ok () w' ∧ Blk w' q (Hl.cs ⟨o.id, K, o.pre⟩) t ∧ Fx (fun k => k = q) w w' :=
  hb.stF hK (a := o.id.map byt) (m := o.once.map byt) (b := [u32v o.pre]) rfl (by simp [h.i]) (by simp [h.o])
theorem stHlP {w : World} {q : Nat} {o : Hl} {t : TypeId} (hb : Blk w q o.cs t) (h : o.ok) (n : Nat) : ∃ w', (Instr.storeAt 26 (.pointer (some ⟨q, 0 + 64, none⟩)) (u32v n)).run Tryd.prog w = .ok () w' ∧ Blk w' q (Hl.cs ⟨o.id, o.once, n⟩) t ∧ Fx (fun k => k = q) w w' := by
  obtain ⟨w', h1, h2, h3⟩ := hb.stU (a := o.id.map byt ++ o.once.map byt) (b := []) (o := 0 + 64) (x := u32v o.pre) (by simp [Hl.cs]) (by simp [h.i, h.o]) n
  exact ⟨w', h1, by simpa [Hl.cs] using h2, h3⟩
def edV : List (Nat × Value) := [(0, .int .u8 237), (1, .int .u8 255), (2, .int .u8 255), (3, .int .u8 255), (4, .int .u8 255), (5, .int .u8 255), (6, .int .u8 255), (7, .int .u8 255), (8, .int .u8 255), (9, .int .u8 255), (10, .int .u8 255), (11, .int .u8 255), (12, .int .u8 255), (13, .int .u8 255), (14, .int .u8 255), (15, .int .u8 255), (16, .int .u8 255), (17, .int .u8 255), (18, .int .u8 255), (19, .int .u8 255), (20, .int .u8 255), (21, .int .u8 255), (22, .int .u8 255), (23, .int .u8 255), (24, .int .u8 255), (25, .int .u8 255), (26, .int .u8 255), (27, .int .u8 255), (28, .int .u8 255), (29, .int .u8 255), (30, .int .u8 255), (31, .int .u8 127)]
theorem bded (W : World) : (Instr.build 23 edV.toArray).run Tryd.prog W = .ok (kv Cv.edL) W := by kernel_rfl
def eeV : List (Nat × Value) := [(0, .int .u8 238), (1, .int .u8 255), (2, .int .u8 255), (3, .int .u8 255), (4, .int .u8 255), (5, .int .u8 255), (6, .int .u8 255), (7, .int .u8 255), (8, .int .u8 255), (9, .int .u8 255), (10, .int .u8 255), (11, .int .u8 255), (12, .int .u8 255), (13, .int .u8 255), (14, .int .u8 255), (15, .int .u8 255), (16, .int .u8 255), (17, .int .u8 255), (18, .int .u8 255), (19, .int .u8 255), (20, .int .u8 255), (21, .int .u8 255), (22, .int .u8 255), (23, .int .u8 255), (24, .int .u8 255), (25, .int .u8 255), (26, .int .u8 255), (27, .int .u8 255), (28, .int .u8 255), (29, .int .u8 255), (30, .int .u8 255), (31, .int .u8 127)]
theorem bdee (W : World) : (Instr.build 23 eeV.toArray).run Tryd.prog W = .ok (kv Cv.eeL) W := by kernel_rfl
theorem rem4 (z : Int) : ∃ r : Int, -4 < r ∧ r < 4 ∧ z.tmod 4 = r := ⟨_, Int.lt_tmod_of_pos z (by decide), Int.tmod_lt_of_pos z (by decide), rfl⟩
theorem rem4p (z : Int) (h : 0 ≤ z) : ∃ r : Int, 0 ≤ r ∧ r < 4 ∧ z.tmod 4 = r := ⟨_, Int.tmod_nonneg 4 h, Int.tmod_lt_of_pos z (by decide), rfl⟩
def BadK (bad : List UInt8) : Prop := bad.length = 32 ∧ ∀ k : List UInt8, k.length = 32 → Cv.timesL k bad = z32
theorem badK0 : BadK z32 := ⟨rfl, fun k hk => Cv.bad0 k⟩
theorem badK1 : BadK Cv.oneL := ⟨rfl, fun k hk => Cv.bad1 k hk⟩
theorem badK2 : BadK Cv.edL := ⟨rfl, fun k hk => Cv.bad2 k⟩
theorem badK3 : BadK Cv.eeL := ⟨rfl, fun k hk => Cv.bad3 k hk⟩
theorem agOf_bad {a b c : Pr} (h : Cv.timesL a.a a.b = z32 ∨ Cv.timesL b.a b.b = z32 ∨ Cv.timesL c.a c.b = z32) : agOf 1 a b c = ⟨z32, z16, 70⟩ := agr_no _ (by decide) h
theorem agOf_good {a b c : Pr} (h1 : Cv.timesL a.a a.b ≠ z32) (h2 : Cv.timesL b.a b.b ≠ z32) (h3 : Cv.timesL c.a c.b ≠ z32) : (agOf 1 a b c).e = 0 := by
  unfold agOf
  rw [agr_ok _ (by decide) h1 h2 h3]
def ptE1 (z : Int) (q3 p7 : Nat) (_ : List UInt8) : List (Nat × Value) := [(2, .int .i64 z), (3, .pointer (some ⟨q3, 0, none⟩)), (7, .pointer (some ⟨p7, 0, none⟩))]
def PtR1 (w : World) (k : List UInt8) (q3 p7 : Nat) (bad : List UInt8) (W : World) : Prop := Blk W q3 (k.map byt) 23 ∧ Blk W p7 (bad.map byt) 23 ∧ BadK bad ∧ Below w.heap.size w W
def ptE2 (p8 p9 p10 : Nat) (_ : Of × Hl) : List (Nat × Value) := [(8, .pointer (some ⟨p8, 0, none⟩)), (9, .pointer (some ⟨p9, 0, none⟩)), (10, .pointer (some ⟨p10, 0, none⟩))]
def PtR2 (w : World) (P : Pr) (p8 p9 p10 : Nat) (x : Of × Hl) (W : World) : Prop := Blk W p8 P.cs 25 ∧ Blk W p9 x.1.cs 28 ∧ Blk W p10 x.2.cs 33 ∧ x.1.ok ∧ x.2.ok ∧ agOf x.1.pre ⟨P.a, x.1.key⟩ ⟨P.a, x.1.id⟩ ⟨P.a, x.1.key⟩ = ⟨z32, z16, 70⟩ ∧ agOf x.2.pre ⟨P.a, x.2.id⟩ ⟨P.a, x.2.once⟩ ⟨P.a, x.2.once⟩ = ⟨z32, z16, 70⟩ ∧ Below w.heap.size w W
theorem one_lt : (1 : Nat) < 4294967296 := by decide
set_option maxRecDepth 100000 in
set_option maxHeartbeats 4000000 in
theorem points_any (k : List UInt8) (lk : k.length = 32) (y z : Int) (w : World) (hS : Kst w) :
    Calls Tryd.prog 4 #[kv k, .int .i64 y, .int .i64 z] w fun x w' => x = .returned (.bool true) ∧ Below w.heap.size w w' := by
  obtain ⟨P, hPa, hPb⟩ := prOf (Cv.clampL k) (Cv.publicL k)
  have kP : P.ok := ⟨by rw [← hPa, Cv.clamp_length, lk], by rw [← hPb]; exact Cv.public_length k⟩
  have hne0 : Cv.timesL P.a P.b ≠ z32 := by
    rw [← hPa, ← hPb, Cv.times_clamp k _ lk]
    exact Cv.secret_ne k k lk lk
  have kO : (⟨P.b, 1, P.b⟩ : Of).ok := ⟨kP.b, one_lt, kP.b⟩
  have kH : (⟨P.b, P.b, 1⟩ : Hl).ok := ⟨kP.b, kP.b, one_lt⟩
  have hge : (agOf 1 ⟨P.a, P.b⟩ ⟨P.a, P.b⟩ ⟨P.a, P.b⟩).e = 0 := agOf_good hne0 hne0 hne0
  have hgl := agOf_len 1 ⟨P.a, P.b⟩ ⟨P.a, P.b⟩ ⟨P.a, P.b⟩
  obtain ⟨g, hg1⟩ : ∃ g, agOf 1 ⟨P.a, P.b⟩ ⟨P.a, P.b⟩ ⟨P.a, P.b⟩ = g := ⟨_, rfl⟩
  rw [hg1] at hge hgl
  have hg2 := hg1
  obtain ⟨A, hA⟩ : ∃ A, stA g P P ⟨P.b, 1, P.b⟩ = A := ⟨_, rfl⟩
  obtain ⟨B, hB⟩ : ∃ B, meA g P ⟨P.b, P.b, 1⟩ = B := ⟨_, rfl⟩
  have kA : A.ok := by rw [← hA]; exact stA_ok hgl.1 hgl.2 kP kP kO
  have kB : B.ok := by rw [← hB]; exact meA_ok hgl.1 hgl.2 kP kH
  have eA : A = ⟨g.s, g.i, P.b ++ P.b, ⟨P.b, P.b, 1⟩, 0⟩ := by rw [← hA]; unfold stA; rw [if_pos hge]
  have eB : B = ⟨g.s, g.i, P.b ++ P.b, Hl.z, 0⟩ := by rw [← hB]; unfold meA; rw [if_pos hge]
  have hAe : A.e = 0 := by rw [eA]
  have hBs : B.s = A.s := by rw [eA, eB]
  clear eA eB
  obtain ⟨w1, q3, r1, b1, l1, hq3⟩ := box23 k w
  obtain ⟨w2, p7, r2, b2, l2, hp7⟩ := new23 w1
  have hne : q3 ≠ p7 := by have := b1.lt; omega
  refine calls_of_args [kv k, .int .i64 y, .int .i64 z] Tryd.func4 rfl 99 Tryd.ntmps4 (by show 3 ≤ 99; decide) ?_
  refine EW.seq ?_
  refine EW.region ?_
  refine WL.box rfl rfl rfl r1 ?_
  first | refine WL.assign rfl rfl rfl ?_
  refine WL.done ?_
  refine EW.on ?_
  refine EW.seq ?_
  refine EW.region ?_
  refine WL.new rfl rfl r2 ?_
  refine WL.done ?_
  refine EW.on ?_
  refine EW.join (ptE1 z q3 p7) (PtR1 w k q3 p7) ?_ ?_
  · refine EW.seq ?_
    obtain ⟨m1, hm1, hm2, hr1⟩ := rem4 y
    obtain ⟨m2, hm3, hm4, hr2⟩ := rem4p (m1 + 4) (by omega)
    refine EW.region ?_
    first | refine WL.move rfl rfl rfl ?_
    refine WL.bin rfl rfl rfl rfl (rem_i _ _ (by decide) hr1 _ _ _) ?_
    refine WL.bin rfl rfl rfl rfl (int_add (c := m1 + 4) (by rw [IntKind.wrap_i64]; omega) _ _ _) ?_
    refine WL.bin rfl rfl rfl rfl (rem_i _ _ (by decide) hr2 _ _ _) ?_
    refine WL.done ?_
    refine EW.on ?_
    refine EW.block ?_
    refine EW.seq ?_
    refine EW.region ?_
    refine WL.bin rfl rfl rfl rfl (int_eq_d _ _ _ _ _) ?_
    first | refine WL.assign rfl rfl rfl ?_
    refine WL.done ?_
    refine EW.on ?_
    refine EW.cond_d rfl (fun h18 => ?_) (fun h18 => ?_)
    · refine EW.region ?_
      refine WL.index rfl rfl rfl rfl (idxK p7 0 (by decide) _) ?_
      obtain ⟨v1, s1, d1, f1⟩ := stByte (j := 0) 1 b2 (by decide)
      refine WL.store rfl rfl rfl s1 ?_
      refine WL.done ?_
      refine pn_block ?_
      exact EW.met (E := ptE1 z q3 p7) (R := PtR1 w k q3 p7) Cv.oneL [2, 3, 7] rfl ⟨(b1.on l2).fx f1 hne, d1, badK1, bf (bt l1 l2) f1 (by have := l1.size; omega)⟩
    · refine EW.seq ?_
      refine EW.region ?_
      refine WL.bin rfl rfl rfl rfl (int_eq_d _ _ _ _ _) ?_
      first | refine WL.assign rfl rfl rfl ?_
      refine WL.done ?_
      refine EW.on ?_
      refine EW.cond_d rfl (fun h21 => ?_) (fun h21 => ?_)
      · refine EW.region ?_
        refine WL.buildN edV rfl rfl rfl (bded _) ?_
        obtain ⟨v1, s1, d1, f1⟩ := st23 (K := Cv.edL) b2 z32l rfl
        refine WL.store rfl rfl rfl s1 ?_
        refine WL.done ?_
        refine pn_block ?_
        exact EW.met (E := ptE1 z q3 p7) (R := PtR1 w k q3 p7) Cv.edL [2, 3, 7] rfl ⟨(b1.on l2).fx f1 hne, d1, badK2, bf (bt l1 l2) f1 (by have := l1.size; omega)⟩
      · refine EW.seq ?_
        refine EW.region ?_
        refine WL.bin rfl rfl rfl rfl (int_eq_d _ _ _ _ _) ?_
        first | refine WL.assign rfl rfl rfl ?_
        refine WL.done ?_
        refine EW.on ?_
        refine EW.cond_d rfl (fun h24 => ?_) (fun h24 => ?_)
        · refine EW.region ?_
          refine WL.buildN eeV rfl rfl rfl (bdee _) ?_
          obtain ⟨v1, s1, d1, f1⟩ := st23 (K := Cv.eeL) b2 z32l rfl
          refine WL.store rfl rfl rfl s1 ?_
          refine WL.done ?_
          refine pn_block ?_
          exact EW.met (E := ptE1 z q3 p7) (R := PtR1 w k q3 p7) Cv.eeL [2, 3, 7] rfl ⟨(b1.on l2).fx f1 hne, d1, badK3, bf (bt l1 l2) f1 (by have := l1.size; omega)⟩
        · refine EW.skip ?_
          refine pn_block ?_
          exact EW.met (E := ptE1 z q3 p7) (R := PtR1 w k q3 p7) z32 [2, 3, 7] rfl ⟨b1.on l2, b2, badK0, bt l1 l2⟩
  · rintro bad wi ⟨b3, b7, hbad, LW⟩
    show EW _ _ _ _ [(2, .int .i64 z), (3, .pointer (some ⟨q3, 0, none⟩)), (7, .pointer (some ⟨p7, 0, none⟩))] _
    refine EW.seq ?_
    refine EW.region ?_
    refine WL.load rfl rfl rfl (ld23 b3 lk) ?_
    refine WL.call [kv k] enter10 rfl rfl rfl (pair_any k lk P hPa hPb wi) ?_
    rintro _ u9 ⟨rfl, m9⟩
    refine ⟨_, rfl, ?_⟩
    replace b7 := b7.on m9
    replace b3 := b3.on m9
    replace LW := bt LW m9
    obtain ⟨p8, y8a, x8, s8, t8, b8, m8, hp8⟩ := put25 kP u9
    replace b7 := b7.on m8
    replace b3 := b3.on m8
    replace LW := bt LW m8
    refine WL.new rfl rfl s8 ?_
    refine WL.store rfl rfl rfl t8 ?_
    refine WL.done ?_
    refine EW.on ?_
    refine EW.seq ?_
    refine EW.region ?_
    refine WL.field rfl rfl rfl (f25_1 p8 0 _) ?_
    refine WL.load rfl rfl rfl ((ld66 b8 kP).2) ?_
    refine WL.field rfl rfl rfl (f25_1 p8 0 _) ?_
    refine WL.load rfl rfl rfl ((ld66 b8 kP).2) ?_
    refine WL.buildN [(0, kv P.b), (1, u32v 1), (2, kv P.b)] rfl rfl rfl (bdOf kP.b kP.b _) ?_
    obtain ⟨p9, y9a, x9, s9, t9, b9, m9, hp9⟩ := put28 kO x8
    replace b7 := b7.on m9
    replace b8 := b8.on m9
    have g9 : w.heap.size ≤ p9 := Nat.le_trans LW.size hp9
    replace LW := bt LW m9
    refine WL.new rfl rfl s9 ?_
    refine WL.store rfl rfl rfl t9 ?_
    refine WL.done ?_
    refine EW.on ?_
    refine EW.seq ?_
    refine EW.region ?_
    refine WL.field rfl rfl rfl (f25_1 p8 0 _) ?_
    refine WL.load rfl rfl rfl ((ld66 b8 kP).2) ?_
    refine WL.field rfl rfl rfl (f25_1 p8 0 _) ?_
    refine WL.load rfl rfl rfl ((ld66 b8 kP).2) ?_
    refine WL.buildN [(0, kv P.b), (1, kv P.b), (2, u32v 1)] rfl rfl rfl (bdHl kP.b kP.b _) ?_
    obtain ⟨p10, y10a, x10, s10, t10, b10, m10, hp10⟩ := put33 kH x9
    replace b7 := b7.on m10
    replace b8 := b8.on m10
    replace b9 := b9.on m10
    have g10 : w.heap.size ≤ p10 := Nat.le_trans LW.size hp10
    replace LW := bt LW m10
    refine WL.new rfl rfl s10 ?_
    refine WL.store rfl rfl rfl t10 ?_
    refine WL.done ?_
    refine EW.on ?_
    refine EW.seq ?_
    refine EW.region ?_
    refine WL.load rfl rfl rfl (ldPr b8 kP) ?_
    refine WL.load rfl rfl rfl (ldPr b8 kP) ?_
    refine WL.load rfl rfl rfl (ldOf b9 kO) ?_
    refine WL.call [P.v, P.v, Of.v ⟨P.b, 1, P.b⟩] enter7 rfl rfl rfl (start_any P P ⟨P.b, 1, P.b⟩ kP kP kO g hg1 A hA x10 (hS.on LW)) ?_
    rintro _ u12 ⟨rfl, m12⟩
    refine ⟨_, rfl, ?_⟩
    replace b7 := b7.on m12
    replace b8 := b8.on m12
    replace b9 := b9.on m12
    replace b10 := b10.on m12
    replace LW := bt LW m12
    obtain ⟨pA, y11a, x11, s11, t11, bA, m11, hp11⟩ := put35 kA u12
    replace b7 := b7.on m11
    replace b8 := b8.on m11
    replace b9 := b9.on m11
    replace b10 := b10.on m11
    replace LW := bt LW m11
    refine WL.new rfl rfl s11 ?_
    refine WL.store rfl rfl rfl t11 ?_
    refine WL.done ?_
    refine EW.on ?_
    refine EW.seq ?_
    refine EW.seq ?_
    refine EW.ordB [(0, 0, 0), (1, 0, 1), (2, 0, 0), (3, 0, 0), (4, 0, 1), (5, 0, 1), (6, 0, 1), (9, 0, 0), (10, 0, 1), (7, 1, 1), (8, 0, 0), (11, 0, 0), (12, 0, 0)] (by kernel_rfl) rfl (by kernel_rfl) ?_
    simp only [opsZ, List.getD_cons_zero, List.getD_cons_succ]
    refine ZE.field rfl rfl rfl rfl sz0 (fun W => f35_4 pA 0 W) ?_
    refine ZE.load rfl rfl rfl rfl sz1 (fun W hW => (anF (bA.on (sb_of hW)) kA).2.2.2.2) ?_
    refine ZE.bin rfl rfl rfl rfl rfl sz0 (fun W => int_ne_f hAe W _ _) ?_
    first | refine ZE.move rfl rfl rfl rfl sz0 ?_
    refine ZE.load rfl rfl rfl rfl sz1 (fun W hW => ldPr (b8.on (sb_of hW)) kP) ?_
    refine ZE.load rfl rfl rfl rfl sz1 (fun W hW => ldPr (b8.on (sb_of hW)) kP) ?_
    refine ZE.load rfl rfl rfl rfl sz1 (fun W hW => ld33 (b10.on (sb_of hW)) kH) ?_
    refine ZE.field rfl rfl rfl rfl sz0 (fun W => f35_0 pA 0 W) ?_
    refine ZE.load rfl rfl rfl rfl sz1 (fun W hW => (anF (bA.on (sb_of hW)) kA).1) ?_
    refine ZE.callB (v := B.v) [P.v, P.v, Hl.v ⟨P.b, P.b, 1⟩] enter11 rfl rfl rfl (fun W h => .inr h) (fun W hW => meet_any P P ⟨P.b, P.b, 1⟩ kP kP kH g hg2 B hB W (hS.on (bt LW hW))) ?_
    refine ZE.fieldV rfl rfl rfl rfl sz0 (fun W => fv35_0 kB W) ?_
    refine ZE.bin rfl rfl rfl rfl rfl sz0 (fun W => neq23_f kB.s hBs W _ _) ?_
    first | refine ZE.pick rfl rfl rfl rfl rfl sz0 ?_
    intro W13 e13
    replace b7 := b7.on e13
    replace b8 := b8.on e13
    replace b9 := b9.on e13
    replace b10 := b10.on e13
    replace LW := bt LW e13
    refine EW.on ?_
    refine EW.cond_f rfl ?_
    refine EW.skip ?_
    refine EW.on ?_
    refine EW.join (ptE2 p8 p9 p10) (PtR2 w P p8 p9 p10) ?_ ?_
    · refine EW.seq ?_
      refine EW.region ?_
      first | refine WL.move rfl rfl rfl ?_
      obtain ⟨cz, hz⟩ := and_i z _ _ _
      refine WL.bin rfl rfl rfl rfl hz ?_
      refine WL.bin rfl rfl rfl rfl (int_eq_d _ _ _ _ _) ?_
      refine WL.done ?_
      refine EW.on ?_
      refine EW.cond_d rfl (fun h58 => ?_) (fun h58 => ?_)
      · refine EW.seq ?_
        have hsz9 : w.heap.size ≤ p9 := g9
        have hsz10 : w.heap.size ≤ p10 := g10
        refine EW.region ?_
        refine WL.load rfl rfl rfl (ld23 b7 hbad.1) ?_
        refine WL.field rfl rfl rfl (f28_0 p9 0 _) ?_
        obtain ⟨x16, s16, e16, f16⟩ := stOf0 b9 kO hbad.1
        refine WL.store rfl rfl rfl s16 ?_
        replace b8 := b8.fx f16 (b8.neT b9 (by decide))
        replace b7 := b7.fx f16 (b7.neT b9 (by decide))
        replace b10 := b10.fx f16 (b10.neT b9 (by decide))
        replace b9 := e16
        replace LW := bf LW f16 hsz9
        refine WL.done ?_
        refine EW.on ?_
        refine EW.region ?_
        refine WL.load rfl rfl rfl (ld23 b7 hbad.1) ?_
        refine WL.field rfl rfl rfl (f33_0 p10 0 _) ?_
        obtain ⟨x17, s17, e17, f17⟩ := stHl0 b10 kH hbad.1
        refine WL.store rfl rfl rfl s17 ?_
        replace b8 := b8.fx f17 (b8.neT b10 (by decide))
        replace b7 := b7.fx f17 (b7.neT b10 (by decide))
        replace b9 := b9.fx f17 (b9.neT b10 (by decide))
        replace b10 := e17
        replace LW := bf LW f17 hsz10
        refine WL.done ?_
        exact EW.met (E := ptE2 p8 p9 p10) (R := PtR2 w P p8 p9 p10) ⟨⟨bad, 1, P.b⟩, ⟨bad, P.b, 1⟩⟩ [8, 9, 10] rfl ⟨b8, b9, b10, ⟨hbad.1, one_lt, kP.b⟩, ⟨hbad.1, kP.b, one_lt⟩, agOf_bad (.inr (.inl (hbad.2 _ kP.a))), agOf_bad (.inl (hbad.2 _ kP.a)), LW⟩
      · refine EW.seq ?_
        have hsz9 : w.heap.size ≤ p9 := g9
        have hsz10 : w.heap.size ≤ p10 := g10
        refine EW.region ?_
        refine WL.load rfl rfl rfl (ld23 b7 hbad.1) ?_
        refine WL.field rfl rfl rfl (f28_2 p9 0 _) ?_
        obtain ⟨x18, s18, e18, f18⟩ := stOf2 b9 kO hbad.1
        refine WL.store rfl rfl rfl s18 ?_
        replace b8 := b8.fx f18 (b8.neT b9 (by decide))
        replace b7 := b7.fx f18 (b7.neT b9 (by decide))
        replace b10 := b10.fx f18 (b10.neT b9 (by decide))
        replace b9 := e18
        replace LW := bf LW f18 hsz9
        refine WL.done ?_
        refine EW.on ?_
        refine EW.region ?_
        refine WL.load rfl rfl rfl (ld23 b7 hbad.1) ?_
        refine WL.field rfl rfl rfl (f33_1 p10 0 _) ?_
        obtain ⟨x19, s19, e19, f19⟩ := stHl1 b10 kH hbad.1
        refine WL.store rfl rfl rfl s19 ?_
        replace b8 := b8.fx f19 (b8.neT b10 (by decide))
        replace b7 := b7.fx f19 (b7.neT b10 (by decide))
        replace b9 := b9.fx f19 (b9.neT b10 (by decide))
        replace b10 := e19
        replace LW := bf LW f19 hsz10
        refine WL.done ?_
        exact EW.met (E := ptE2 p8 p9 p10) (R := PtR2 w P p8 p9 p10) ⟨⟨P.b, 1, bad⟩, ⟨P.b, bad, 1⟩⟩ [8, 9, 10] rfl ⟨b8, b9, b10, ⟨kP.b, one_lt, hbad.1⟩, ⟨kP.b, hbad.1, one_lt⟩, agOf_bad (.inl (hbad.2 _ kP.a)), agOf_bad (.inr (.inl (hbad.2 _ kP.a))), LW⟩
    · clear kO kH
      rintro ⟨O, H⟩ wj ⟨b8, b9, b10, kO, kH, hgo, hgh, LW⟩
      show EW _ _ _ _ [(8, .pointer (some ⟨p8, 0, none⟩)), (9, .pointer (some ⟨p9, 0, none⟩)), (10, .pointer (some ⟨p10, 0, none⟩))] _
      refine EW.seq ?_
      refine EW.region ?_
      refine WL.buildN [(4, .int .i64 70)] rfl rfl rfl (bdAn0 70 _) ?_
      obtain ⟨pR, y20a, x20, s20, t20, bR, m20, hp20⟩ := put35 (An.no_ok 70) wj
      replace b8 := b8.on m20
      replace b9 := b9.on m20
      replace b10 := b10.on m20
      replace LW := bt LW m20
      refine WL.new rfl rfl s20 ?_
      refine WL.store rfl rfl rfl t20 ?_
      refine WL.done ?_
      refine EW.on ?_
      refine EW.seq ?_
      refine EW.seq ?_
      refine EW.ordB [(0, 0, 1), (1, 0, 1), (2, 0, 1), (4, 0, 1), (3, 1, 1), (5, 0, 0), (6, 0, 0), (7, 0, 1), (8, 0, 1), (9, 0, 1), (11, 0, 1), (10, 1, 1), (12, 0, 0), (13, 0, 0)] (by kernel_rfl) rfl (by kernel_rfl) ?_
      simp only [opsZ, List.getD_cons_zero, List.getD_cons_succ]
      refine ZE.load rfl rfl rfl rfl sz1 (fun W hW => ldPr (b8.on (sb_of hW)) kP) ?_
      refine ZE.load rfl rfl rfl rfl sz1 (fun W hW => ldPr (b8.on (sb_of hW)) kP) ?_
      refine ZE.load rfl rfl rfl rfl sz1 (fun W hW => ldOf (b9.on (sb_of hW)) kO) ?_
      refine ZE.load rfl rfl rfl rfl sz1 (fun W hW => ld35 (bR.on (sb_of hW)) (An.no_ok 70)) ?_
      refine ZE.callB (v := (An.no 70).v) [P.v, P.v, Of.v O] enter7 rfl rfl rfl (fun W h => .inr h) (fun W hW => start_any P P O kP kP kO ⟨z32, z16, 70⟩ hgo (An.no 70) rfl W (hS.on (bt LW hW))) ?_
      refine ZE.bin rfl rfl rfl rfl rfl sz0 (fun W => neq35_f (An.no_ok 70) rfl W _ _) ?_
      first | refine ZE.move rfl rfl rfl rfl sz0 ?_
      refine ZE.load rfl rfl rfl rfl sz1 (fun W hW => ldPr (b8.on (sb_of hW)) kP) ?_
      refine ZE.load rfl rfl rfl rfl sz1 (fun W hW => ldPr (b8.on (sb_of hW)) kP) ?_
      refine ZE.load rfl rfl rfl rfl sz1 (fun W hW => ld33 (b10.on (sb_of hW)) kH) ?_
      refine ZE.load rfl rfl rfl rfl sz1 (fun W hW => ld35 (bR.on (sb_of hW)) (An.no_ok 70)) ?_
      refine ZE.callB (v := (An.no 70).v) [P.v, P.v, Hl.v H] enter11 rfl rfl rfl (fun W h => .inr h) (fun W hW => meet_any P P H kP kP kH ⟨z32, z16, 70⟩ hgh (An.no 70) rfl W (hS.on (bt LW hW))) ?_
      refine ZE.bin rfl rfl rfl rfl rfl sz0 (fun W => neq35_f (An.no_ok 70) rfl W _ _) ?_
      first | refine ZE.pick rfl rfl rfl rfl rfl sz0 ?_
      intro W21 e21
      replace b8 := b8.on e21
      replace b9 := b9.on e21
      replace b10 := b10.on e21
      replace bR := bR.on e21
      replace LW := bt LW e21
      refine EW.on ?_
      refine EW.cond_f rfl ?_
      refine EW.skip ?_
      refine EW.on ?_
      refine EW.seq ?_
      have hsz9 := g9
      have hsz10 := g10
      refine EW.region ?_
      refine WL.field rfl rfl rfl (f28_1 p9 0 _) ?_
      obtain ⟨y1, s231, e231, f231⟩ := stOfP b9 kO 0
      refine WL.store rfl rfl rfl s231 ?_
      replace b8 := b8.fx f231 (b8.neT b9 (by decide))
      replace bR := bR.fx f231 (bR.neT b9 (by decide))
      replace b10 := b10.fx f231 (b10.neT b9 (by decide))
      replace b9 := e231
      replace LW := bf LW f231 hsz9
      refine WL.field rfl rfl rfl (f33_2 p10 0 _) ?_
      obtain ⟨y2, s232, e232, f232⟩ := stHlP b10 kH 0
      refine WL.store rfl rfl rfl s232 ?_
      replace b8 := b8.fx f232 (b8.neT b10 (by decide))
      replace bR := bR.fx f232 (bR.neT b10 (by decide))
      replace b9 := b9.fx f232 (b9.neT b10 (by decide))
      replace b10 := e232
      replace LW := bf LW f232 hsz10
      refine WL.done ?_
      refine EW.on ?_
      refine EW.seq ?_
      replace kO : (⟨O.id, 0, O.key⟩ : Of).ok := ⟨kO.i, by show (0 : Nat) < _; decide, kO.k⟩
      replace kH : (⟨H.id, H.once, 0⟩ : Hl).ok := ⟨kH.i, kH.o, by show (0 : Nat) < _; decide⟩
      refine EW.region ?_
      refine WL.buildN [(4, .int .i64 170)] rfl rfl rfl (bdAn0 170 _) ?_
      obtain ⟨pN, y24a, x24, s24, t24, bN, m24, hp24⟩ := put35 (An.no_ok 170) y2
      replace b8 := b8.on m24
      replace b9 := b9.on m24
      replace b10 := b10.on m24
      replace LW := bt LW m24
      refine WL.new rfl rfl s24 ?_
      refine WL.store rfl rfl rfl t24 ?_
      refine WL.done ?_
      refine EW.on ?_
      refine EW.seq ?_
      refine EW.ordB [(0, 0, 1), (1, 0, 1), (2, 0, 1), (4, 0, 1), (3, 1, 1), (5, 0, 0), (6, 0, 0), (7, 0, 1), (8, 0, 1), (9, 0, 1), (11, 0, 1), (10, 1, 1), (12, 0, 0), (13, 0, 0), (14, 0, 0)] (by kernel_rfl) rfl (by kernel_rfl) ?_
      simp only [opsZ, List.getD_cons_zero, List.getD_cons_succ]
      refine ZE.load rfl rfl rfl rfl sz1 (fun W hW => ldPr (b8.on (sb_of hW)) kP) ?_
      refine ZE.load rfl rfl rfl rfl sz1 (fun W hW => ldPr (b8.on (sb_of hW)) kP) ?_
      refine ZE.load rfl rfl rfl rfl sz1 (fun W hW => ldOf (b9.on (sb_of hW)) kO) ?_
      refine ZE.load rfl rfl rfl rfl sz1 (fun W hW => ld35 (bN.on (sb_of hW)) (An.no_ok 170)) ?_
      refine ZE.callB (v := (An.no 170).v) [P.v, P.v, Of.v ⟨O.id, 0, O.key⟩] enter7 rfl rfl rfl (fun W h => .inr h) (fun W hW => start_any P P ⟨O.id, 0, O.key⟩ kP kP kO ⟨z32, z16, 170⟩ rfl (An.no 170) rfl W (hS.on (bt LW hW))) ?_
      refine ZE.bin rfl rfl rfl rfl rfl sz0 (fun W => eql35_t (An.no_ok 170) rfl W _ _) ?_
      first | refine ZE.move rfl rfl rfl rfl sz0 ?_
      refine ZE.load rfl rfl rfl rfl sz1 (fun W hW => ldPr (b8.on (sb_of hW)) kP) ?_
      refine ZE.load rfl rfl rfl rfl sz1 (fun W hW => ldPr (b8.on (sb_of hW)) kP) ?_
      refine ZE.load rfl rfl rfl rfl sz1 (fun W hW => ld33 (b10.on (sb_of hW)) kH) ?_
      refine ZE.load rfl rfl rfl rfl sz1 (fun W hW => ld35 (bN.on (sb_of hW)) (An.no_ok 170)) ?_
      refine ZE.callB (v := (An.no 170).v) [P.v, P.v, Hl.v ⟨H.id, H.once, 0⟩] enter11 rfl rfl rfl (fun W h => .inr h) (fun W hW => meet_any P P ⟨H.id, H.once, 0⟩ kP kP kH ⟨z32, z16, 170⟩ rfl (An.no 170) rfl W (hS.on (bt LW hW))) ?_
      refine ZE.bin rfl rfl rfl rfl rfl sz0 (fun W => eql35_t (An.no_ok 170) rfl W _ _) ?_
      first | refine ZE.pick rfl rfl rfl rfl rfl sz0 ?_
      first | refine ZE.assign rfl rfl rfl rfl sz0 ?_
      intro W25 e25
      refine EW.on ?_
      refine EW.ret ?_
      exact EW.returns Tryd.results4 rfl ⟨rfl, bt LW e25⟩
end Go.Proofs.YtoceepmehmacbaaDoor
