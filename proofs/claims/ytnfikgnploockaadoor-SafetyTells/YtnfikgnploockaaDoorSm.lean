import Derived.Test.YtnfikgnploockaaDoorSl
set_option linter.unusedVariables false
set_option linter.unusedSimpArgs false
namespace Go.Proofs.YtnfikgnploockaaDoor
open Go.RowKit

section
variable {P : Program} {n : Nat} {ops : Array Oper} {S : Nat → World → Prop} {K : List (Nat × Value) → (World → Prop) → Prop} {i c lv : Nat} {ty : TypeId} {ps : String} {af : Array Edge} {gd : Option (Nat × Bool)} {r : List (Oper × Nat × Nat)} {e : List (Nat × Value)} {C : World → Prop}
theorem ZE.idx {t : TypeId} {x y : Operand} {u u' v : Value} (h1 : decide (c = 1) = false) (hw : wantE ops e ⟨some i, .index t x y, ty, ps, af, gd⟩ = some true) (hi : decide (i < n) = true) (hx : evE e x = some u) (hy : evE e y = some u') (hc : ∀ w, C w → SZ S c lv C w) (hr : ∀ w, (Instr.index t u u').run P w = .ok v w) (k : wpZE P n ops S K r ((i, v) :: e) C) : wpZE P n ops S K ((⟨some i, .index t x y, ty, ps, af, gd⟩, c, lv) :: r) e C :=
  ZE.val h1 hw hi hc (fun a ha W hW => by simp [execOp, ha.ev hx, ha.ev hy, hr W, Result.andThen]) k
end
theorem one_cut {d : List UInt8} {i : Nat} {u : UInt8} (h : d[i]? = some u) : (d.drop i).take 1 = [u] := by
  obtain ⟨hi, rfl⟩ := List.getElem?_eq_some_iff.1 h
  rw [List.drop_eq_getElem_cons hi]; rfl
theorem pick_case (zs : List Int) (i k : Nat) : ¬ ((i : Nat) : Int) < (zs.length : Int) ∨ (∃ z, zs[i]? = some z ∧ ((i : Nat) : Int) < (zs.length : Int) ∧ ¬ ((k : Nat) : Int) < z % 4) ∨ (∃ z, zs[i]? = some z ∧ ((i : Nat) : Int) < (zs.length : Int) ∧ ((k : Nat) : Int) < z % 4) := by
  by_cases h : i < zs.length
  · right
    by_cases h2 : ((k : Nat) : Int) < zs[i] % 4
    · exact .inr ⟨_, List.getElem?_eq_getElem h, by omega, h2⟩
    · exact .inl ⟨_, List.getElem?_eq_getElem h, by omega, h2⟩
  · exact .inl (by omega)
set_option maxRecDepth 100000 in
set_option maxHeartbeats 4000000 in
theorem tells_any (a0 ka b0 kb : List UInt8) (hKa : ka.length = 32) (hKb : kb.length = 32) (vg : Value) (zs : List Int) (at' by' : Int) (w : World) (hL : Lst w) (hG : HasI w vg zs) : Calls Tryd.prog 6 #[sv a0, kv ka, sv b0, kv kb, vg, .int .i64 at', .int .i64 by'] w fun e w' => e = .returned (.bool true) ∧ Below w.heap.size w w' := by
  obtain ⟨w1, q1, r1, b1, l1, hq1⟩ := box23 ka w
  obtain ⟨w2, q2, r2, c22, l2, hq2⟩ := box23 kb w1
  have c12 := b1.on l2
  have L2 := (hL.on l1).on l2
  have hG2 := (hG.on l1).on l2
  have B2 := Below.refl w2.heap.size w2
  obtain ⟨a, hna⟩ : ∃ a, nmd a0 = a := ⟨_, rfl⟩
  obtain ⟨b, hnb⟩ : ∃ b, nmd b0 = b := ⟨_, rfl⟩
  have oka : nmE a = 0 := by rw [← hna]; exact nmd_ok a0
  have okb : nmE b = 0 := by rw [← hnb]; exact nmd_ok b0
  have eE := bhE_two oka okb
  obtain ⟨d, hbD, hdl, hdD, eN0⟩ : ∃ d, bhD a ka b kb = d ∧ d.length = 60 ∧ allD d ∧ numD a ka b kb = nG d 12 := ⟨_, bhD_two ka kb oka okb, by rw [srt_len, half_len, half_len], srt_allD (half_allD a ka) (half_allD b kb), numD_two ka kb oka okb⟩
  obtain ⟨_, _, hr2⟩ := nG_rd hdD hdl
  have hNl0 := nG_len hdl 12 (Nat.le_refl _)
  obtain ⟨N, hN⟩ : ∃ N, nG d 12 = N := ⟨_, rfl⟩
  rw [hN] at hr2 hNl0 eN0
  have eN : numD a ka b kb = N := eN0
  have hNl : N.length = 71 := hNl0
  have hdN : dgt N = d := hr2
  obtain ⟨kk, hkk, hkl⟩ : ∃ kk : Nat, at' % 60 = (kk : Int) ∧ kk < 60 := ⟨(at' % 60).toNat, by omega, by omega⟩
  obtain ⟨r9, hr9, hr9l⟩ : ∃ r9 : Nat, by' % 9 = (r9 : Int) ∧ r9 < 9 := ⟨(by' % 9).toNat, by omega, by omega⟩
  obtain ⟨m8, hm8, hm8l⟩ : ∃ m8 : Nat, by' % 8 = (m8 : Int) ∧ m8 < 8 := ⟨(by' % 8).toNat, by omega, by omega⟩
  obtain ⟨f, hf⟩ : ∃ f, frn[m8]? = some f := ⟨_, List.getElem?_eq_getElem (show m8 < 8 from hm8l)⟩
  have hfb := frn_bad f (List.mem_of_getElem? hf)
  have hfc : (frn.map sv)[m8]? = some (sv f) := by rw [List.getElem?_map, hf]; rfl
  clear hr2 hNl0 eN0 hN
  refine calls_of_args [sv a0, kv ka, sv b0, kv kb, vg, .int .i64 at', .int .i64 by'] Tryd.func6 rfl 217 Tryd.ntmps6 (by show 7 ≤ 217; decide) ?_
  refine EW.seq ?_
  refine EW.region ?_
  refine WL.box rfl rfl rfl r1 ?_
  refine WL.box rfl rfl rfl r2 ?_
  first | refine WL.assign rfl rfl rfl ?_
  refine WL.done ?_
  refine EW.on ?_
  refine EW.seq ?_
  refine EW.region ?_
  first | refine WL.move rfl rfl rfl ?_
  refine WL.call [sv a0] enter8 rfl rfl rfl (named_any a0 w2) ?_
  rintro _ wz ⟨rfl, hz⟩
  rw [hz, hna]
  clear hz wz
  refine ⟨_, rfl, ?_⟩
  first | refine WL.move rfl rfl rfl ?_
  refine WL.call [sv b0] enter8 rfl rfl rfl (named_any b0 w2) ?_
  rintro _ wz ⟨rfl, hz⟩
  rw [hz, hnb]
  clear hz wz
  refine ⟨_, rfl, ?_⟩
  first | refine WL.assign rfl rfl rfl ?_
  first | refine WL.assign rfl rfl rfl ?_
  refine WL.done ?_
  refine EW.on ?_
  refine EW.seq ?_
  refine EW.region ?_
  first | refine WL.move rfl rfl rfl ?_
  refine WL.load rfl rfl rfl (ld23 c12 hKa) ?_
  first | refine WL.move rfl rfl rfl ?_
  refine WL.load rfl rfl rfl (ld23 c22 hKb) ?_
  refine WL.call [sv a, kv ka, sv b, kv kb] enter12 rfl rfl rfl (number_any a ka b kb hKa hKb w2 L2) ?_
  rintro _ w3 ⟨rfl, l3⟩
  rw [eE, eN]
  refine ⟨_, rfl, ?_⟩
  have c13 := c12.on l3
  have c23 := c22.on l3
  have L3 := L2.on l3
  have B3 := bt B2 l3
  first | refine WL.move rfl rfl rfl ?_
  first | refine WL.extract rfl rfl rfl (ext_2 _ _ _).1 ?_
  first | refine WL.extract rfl rfl rfl (ext_2 _ _ _).2 ?_
  first | refine WL.assign rfl rfl rfl ?_
  first | refine WL.assign rfl rfl rfl ?_
  refine WL.done ?_
  refine EW.on ?_
  refine EW.seq ?_
  refine EW.region ?_
  first | refine WL.move rfl rfl rfl ?_
  refine WL.call [sv N] enter14 rfl rfl rfl (digits_any N (by omega) w3) ?_
  rintro _ w4 ⟨rfl, l4⟩
  rw [hdN]
  refine ⟨_, rfl, ?_⟩
  have c14 := c13.on l4
  have c24 := c23.on l4
  have L4 := L3.on l4
  have B4 := bt B3 l4
  have G4 := (hG2.on l3).on l4
  first | refine WL.assign rfl rfl rfl ?_
  refine WL.done ?_
  refine EW.on ?_
  refine EW.seq ?_
  refine EW.seq ?_
  refine EW.region ?_
  first | refine WL.move rfl rfl rfl ?_
  refine WL.bin rfl rfl rfl rfl (int_ne_f rfl _ _ _) ?_
  first | refine WL.move rfl rfl rfl ?_
  first | refine WL.move rfl rfl rfl ?_ | refine WL.skip _ rfl rfl rfl ?_
  refine WL.len rfl rfl rfl (len_s _ _ _) ?_
  refine WL.bin rfl rfl rfl rfl (int_ne_f (a := (d.length : Int)) (b := 60) (by rw [hdl]; rfl) _ _ _) ?_
  first | refine WL.pick rfl rfl rfl rfl ?_
  refine WL.done ?_
  refine EW.on ?_
  refine EW.cond_f rfl ?_
  refine EW.skip ?_
  refine EW.on ?_
  refine EW.seq ?_
  refine EW.region ?_
  first | refine WL.assign rfl rfl rfl ?_
  refine WL.done ?_
  refine EW.on ?_
  refine EW.seq ?_
  refine EW.seq ?_
  refine EW.region ?_
  first | refine WL.assign rfl rfl rfl ?_
  refine WL.done ?_
  refine EW.on ?_
  refine EW.block ?_
  refine EW.loop (tE0 a b d vg at' by' q1 q2) (fun x W => x.1 ≤ 60 ∧ okT x.2 = true ∧ dgt x.2 = d.take x.1 ∧ x.2.length ≤ 4 * x.1 ∧ Below w4.heap.size w4 W) (fun x => 60 - x.1) (0, []) [0, 2, 4, 5, 6, 8, 10, 17, 18, 19] rfl ⟨by show 0 ≤ 60; omega, rfl, rfl, Nat.zero_le _, Below.refl _ _⟩ ?_
  rintro x W5 ⟨hx, okx, dgx, lnx, l5⟩
  refine EW.seq ?_
  refine EW.seq ?_
  refine EW.region ?_
  first | refine WL.move rfl rfl rfl ?_
  refine WL.bin rfl rfl rfl rfl (int_lt_d _ _ _ _ _) ?_
  refine WL.done ?_
  refine EW.on ?_
  refine EW.cond_d rfl (fun h58 => ?_) (fun h58 => ?_)
  · refine EW.skip ?_
    refine EW.on ?_
    refine EW.seq ?_
    refine EW.block ?_
    refine EW.seq ?_
    refine EW.seq ?_
    refine EW.region ?_
    first | refine WL.assign rfl rfl rfl ?_
    refine WL.done ?_
    refine EW.on ?_
    refine EW.block ?_
    refine EW.loop (tE2 a b d vg at' by' q1 q2 x.1) (fun y W => y.1 ≤ 3 ∧ okT y.2 = true ∧ dgt y.2 = d.take x.1 ∧ y.2.length ≤ 4 * x.1 + y.1 ∧ Below w4.heap.size w4 W) (fun y => 4 - y.1) (0, x.2) [0, 2, 4, 5, 6, 8, 10, 17, 18, 19, 20] rfl ⟨by show 0 ≤ 3; omega, okx, dgx, by show x.2.length ≤ 4 * x.1 + 0; omega, l5⟩ ?_
    rintro y W0 ⟨hy, oky, dgy, lny, hb⟩
    refine EW.seq ?_
    refine EW.seq ?_
    rcases (show ¬ ((x.1 : Nat) : Int) < (zs.length : Int) ∨ (∃ z, zs[x.1]? = some z ∧ ((x.1 : Nat) : Int) < (zs.length : Int) ∧ ¬ ((y.1 : Nat) : Int) < z % 4) ∨ (∃ z, zs[x.1]? = some z ∧ ((x.1 : Nat) : Int) < (zs.length : Int) ∧ ((y.1 : Nat) : Int) < z % 4) from pick_case zs x.1 y.1) with g1 | ⟨z, hz0, g1, g2⟩ | ⟨z, hz0, g1, g2⟩
    · refine EW.region ?_
      first | refine WL.move rfl rfl rfl ?_
      first | refine WL.move rfl rfl rfl ?_
      refine WL.len rfl rfl rfl (G4.len _ _) ?_
      first | refine WL.bin rfl rfl rfl rfl (int_lt_t g1 _ _ _) ?_ | refine WL.bin rfl rfl rfl rfl (int_lt_f g1 _ _ _) ?_
      first | refine WL.move rfl rfl rfl ?_
      first | refine WL.move rfl rfl rfl ?_ | refine WL.skip _ rfl rfl rfl ?_
      first | refine WL.move rfl rfl rfl ?_ | refine WL.skip _ rfl rfl rfl ?_
      first | refine WL.move rfl rfl rfl ?_ | refine WL.skip _ rfl rfl rfl ?_
      refine WL.skip _ rfl rfl rfl ?_
      refine WL.skip _ rfl rfl rfl ?_
      refine WL.skip _ rfl rfl rfl ?_
      refine WL.skip _ rfl rfl rfl ?_
      first | refine WL.pick rfl rfl rfl rfl ?_
      refine WL.done ?_
      refine EW.on ?_
      refine EW.cond_f rfl ?_
      refine EW.exit ?_
      refine px_then ?_
      refine px_then ?_
      refine px_block ?_
      refine EW.on ?_
      obtain ⟨u, hu⟩ : ∃ u, d[x.1]? = some u := ⟨_, List.getElem?_eq_getElem (by omega)⟩
      refine EW.region ?_
      first | refine WL.move rfl rfl rfl ?_
      first | refine WL.move rfl rfl rfl ?_
      first | refine WL.move rfl rfl rfl ?_
      first | refine WL.move rfl rfl rfl ?_
      refine WL.bin rfl rfl rfl rfl (int_add (c := ((x.1 + 1 : Nat) : Int)) (by rw [IntKind.wrap_i64]; omega) _ _ _) ?_
      refine WL.slice2 rfl rfl rfl rfl rfl (cut_s d x.1 (x.1 + 1) (by omega) (by omega) _) ?_
      rw [show (d.drop x.1).take (x.1 + 1 - x.1) = [u] by rw [show x.1 + 1 - x.1 = 1 by omega]; exact one_cut hu]
      refine WL.bin rfl rfl rfl rfl (str_cat y.2 [u] (by simp; omega) _ _ _) ?_
      first | refine WL.assign rfl rfl rfl ?_
      refine WL.done ?_
      refine pn_block ?_
      refine EW.on ?_
      refine EW.region ?_
      first | refine WL.move rfl rfl rfl ?_
      refine WL.bin rfl rfl rfl rfl (int_add (c := ((x.1 + 1 : Nat) : Int)) (by rw [IntKind.wrap_i64]; omega) _ _ _) ?_
      first | refine WL.assign rfl rfl rfl ?_
      refine WL.done ?_
      exact EW.again (E := tE0 a b d vg at' by' q1 q2) (R := fun x W => x.1 ≤ 60 ∧ okT x.2 = true ∧ dgt x.2 = d.take x.1 ∧ x.2.length ≤ 4 * x.1 ∧ Below w4.heap.size w4 W) (m := fun x => 60 - x.1) (x := x) (x.1 + 1, y.2 ++ [u]) [0, 2, 4, 5, 6, 8, 10, 17, 18, 19] rfl ⟨by show x.1 + 1 ≤ 60; omega, (snoc_D (hdD u (List.mem_of_getElem? hu))).2 oky, by show dgt (y.2 ++ [u]) = d.take (x.1 + 1); rw [(snoc_D (hdD u (List.mem_of_getElem? hu))).1, dgy, take_succ' hu], by show (y.2 ++ [u]).length ≤ 4 * (x.1 + 1); simp; omega, hb⟩ (by show 60 - (x.1 + 1) < 60 - x.1; omega)
    · obtain ⟨ad, ra, la⟩ := G4.get hz0
      refine EW.region ?_
      first | refine WL.move rfl rfl rfl ?_
      first | refine WL.move rfl rfl rfl ?_
      refine WL.len rfl rfl rfl (G4.len _ _) ?_
      first | refine WL.bin rfl rfl rfl rfl (int_lt_t g1 _ _ _) ?_ | refine WL.bin rfl rfl rfl rfl (int_lt_f g1 _ _ _) ?_
      first | refine WL.move rfl rfl rfl ?_
      first | refine WL.move rfl rfl rfl ?_ | refine WL.skip _ rfl rfl rfl ?_
      first | refine WL.move rfl rfl rfl ?_ | refine WL.skip _ rfl rfl rfl ?_
      first | refine WL.move rfl rfl rfl ?_ | refine WL.skip _ rfl rfl rfl ?_
      refine WL.index rfl rfl rfl rfl (ra _) ?_
      refine WL.load rfl rfl rfl (la _ hb) ?_
      refine WL.call [.int .i64 z, .int .i64 4] enter16 rfl rfl rfl (rest_any z 4 (by decide) (by decide) W0) ?_
      rintro _ wz ⟨rfl, hz⟩
      rw [hz]
      clear hz wz
      refine ⟨_, rfl, ?_⟩
      first | refine WL.bin rfl rfl rfl rfl (int_lt_t g2 _ _ _) ?_ | refine WL.bin rfl rfl rfl rfl (int_lt_f g2 _ _ _) ?_
      first | refine WL.pick rfl rfl rfl rfl ?_
      refine WL.done ?_
      refine EW.on ?_
      refine EW.cond_f rfl ?_
      refine EW.exit ?_
      refine px_then ?_
      refine px_then ?_
      refine px_block ?_
      refine EW.on ?_
      obtain ⟨u, hu⟩ : ∃ u, d[x.1]? = some u := ⟨_, List.getElem?_eq_getElem (by omega)⟩
      refine EW.region ?_
      first | refine WL.move rfl rfl rfl ?_
      first | refine WL.move rfl rfl rfl ?_
      first | refine WL.move rfl rfl rfl ?_
      first | refine WL.move rfl rfl rfl ?_
      refine WL.bin rfl rfl rfl rfl (int_add (c := ((x.1 + 1 : Nat) : Int)) (by rw [IntKind.wrap_i64]; omega) _ _ _) ?_
      refine WL.slice2 rfl rfl rfl rfl rfl (cut_s d x.1 (x.1 + 1) (by omega) (by omega) _) ?_
      rw [show (d.drop x.1).take (x.1 + 1 - x.1) = [u] by rw [show x.1 + 1 - x.1 = 1 by omega]; exact one_cut hu]
      refine WL.bin rfl rfl rfl rfl (str_cat y.2 [u] (by simp; omega) _ _ _) ?_
      first | refine WL.assign rfl rfl rfl ?_
      refine WL.done ?_
      refine pn_block ?_
      refine EW.on ?_
      refine EW.region ?_
      first | refine WL.move rfl rfl rfl ?_
      refine WL.bin rfl rfl rfl rfl (int_add (c := ((x.1 + 1 : Nat) : Int)) (by rw [IntKind.wrap_i64]; omega) _ _ _) ?_
      first | refine WL.assign rfl rfl rfl ?_
      refine WL.done ?_
      exact EW.again (E := tE0 a b d vg at' by' q1 q2) (R := fun x W => x.1 ≤ 60 ∧ okT x.2 = true ∧ dgt x.2 = d.take x.1 ∧ x.2.length ≤ 4 * x.1 ∧ Below w4.heap.size w4 W) (m := fun x => 60 - x.1) (x := x) (x.1 + 1, y.2 ++ [u]) [0, 2, 4, 5, 6, 8, 10, 17, 18, 19] rfl ⟨by show x.1 + 1 ≤ 60; omega, (snoc_D (hdD u (List.mem_of_getElem? hu))).2 oky, by show dgt (y.2 ++ [u]) = d.take (x.1 + 1); rw [(snoc_D (hdD u (List.mem_of_getElem? hu))).1, dgy, take_succ' hu], by show (y.2 ++ [u]).length ≤ 4 * (x.1 + 1); simp; omega, hb⟩ (by show 60 - (x.1 + 1) < 60 - x.1; omega)
    · obtain ⟨ad, ra, la⟩ := G4.get hz0
      refine EW.region ?_
      first | refine WL.move rfl rfl rfl ?_
      first | refine WL.move rfl rfl rfl ?_
      refine WL.len rfl rfl rfl (G4.len _ _) ?_
      first | refine WL.bin rfl rfl rfl rfl (int_lt_t g1 _ _ _) ?_ | refine WL.bin rfl rfl rfl rfl (int_lt_f g1 _ _ _) ?_
      first | refine WL.move rfl rfl rfl ?_
      first | refine WL.move rfl rfl rfl ?_ | refine WL.skip _ rfl rfl rfl ?_
      first | refine WL.move rfl rfl rfl ?_ | refine WL.skip _ rfl rfl rfl ?_
      first | refine WL.move rfl rfl rfl ?_ | refine WL.skip _ rfl rfl rfl ?_
      refine WL.index rfl rfl rfl rfl (ra _) ?_
      refine WL.load rfl rfl rfl (la _ hb) ?_
      refine WL.call [.int .i64 z, .int .i64 4] enter16 rfl rfl rfl (rest_any z 4 (by decide) (by decide) W0) ?_
      rintro _ wz ⟨rfl, hz⟩
      rw [hz]
      clear hz wz
      refine ⟨_, rfl, ?_⟩
      first | refine WL.bin rfl rfl rfl rfl (int_lt_t g2 _ _ _) ?_ | refine WL.bin rfl rfl rfl rfl (int_lt_f g2 _ _ _) ?_
      first | refine WL.pick rfl rfl rfl rfl ?_
      refine WL.done ?_
      refine EW.on ?_
      refine EW.cond_t rfl ?_
      refine EW.skip ?_
      refine EW.on ?_
      refine EW.seq ?_
      refine EW.block ?_
      obtain ⟨m, hm, hm4⟩ : ∃ m : Nat, IntKind.i64.wrap (z + (y.1 : Int)) % 4 = (m : Int) ∧ m < 4 := ⟨(IntKind.i64.wrap (z + (y.1 : Int)) % 4).toNat, by omega, by omega⟩
      refine EW.ordB [(0, 0, 0), (1, 0, 0), (2, 0, 0), (3, 0, 0), (4, 0, 1), (5, 0, 0), (6, 0, 0), (8, 0, 0), (9, 0, 0), (10, 0, 0), (11, 0, 1), (12, 0, 0), (13, 0, 0), (7, 1, 1), (14, 1, 1), (15, 0, 0), (16, 0, 0), (17, 0, 0), (18, 0, 0)] (by kernel_rfl) rfl (by kernel_rfl) ?_
      simp only [opsZ, List.getD_cons_zero, List.getD_cons_succ]
      first | refine ZE.move rfl rfl rfl rfl sz0 ?_
      first | refine ZE.move rfl rfl rfl rfl sz0 ?_
      first | refine ZE.move rfl rfl rfl rfl sz0 ?_
      refine ZE.index rfl rfl rfl rfl rfl sz0 (fun W => ra W) ?_
      refine ZE.load rfl rfl rfl rfl sz1 (fun W hW => la W (bt hb (sb_of hW))) ?_
      first | refine ZE.move rfl rfl rfl rfl sz0 ?_
      refine ZE.bin rfl rfl rfl rfl rfl sz0 (fun W => int_add rfl W _ _) ?_
      first | refine ZE.move rfl rfl rfl rfl sz0 ?_
      first | refine ZE.move rfl rfl rfl rfl sz0 ?_
      refine ZE.index rfl rfl rfl rfl rfl sz0 (fun W => ra W) ?_
      refine ZE.load rfl rfl rfl rfl sz1 (fun W hW => la W (bt hb (sb_of hW))) ?_
      first | refine ZE.move rfl rfl rfl rfl sz0 ?_
      refine ZE.bin rfl rfl rfl rfl rfl sz0 (fun W => int_add rfl W _ _) ?_
      refine ZE.callB (v := .int .i64 (m : Int)) [.int .i64 (IntKind.i64.wrap (z + (y.1 : Int))), .int .i64 4] enter16 rfl rfl rfl (fun W h => .inr h) (fun W hW => (rest_any _ 4 (by decide) (by decide) W).mono fun e w' h => ⟨by rw [h.1, hm], by rw [h.2]; exact Below.refl _ _⟩) ?_
      refine ZE.callB (v := .int .i64 (m : Int)) [.int .i64 (IntKind.i64.wrap (z + (y.1 : Int))), .int .i64 4] enter16 rfl rfl rfl (fun W h => .inr h) (fun W hW => (rest_any _ 4 (by decide) (by decide) W).mono fun e w' h => ⟨by rw [h.1, hm], by rw [h.2]; exact Below.refl _ _⟩) ?_
      refine ZE.bin rfl rfl rfl rfl rfl sz0 (fun W => int_add (c := ((m + 1 : Nat) : Int)) (by rw [IntKind.wrap_i64]; omega) W _ _) ?_
      refine ZE.slice2 rfl rfl rfl rfl rfl rfl sz0 (fun W => sgu_cut m hm4 W) ?_
      refine ZE.bin rfl rfl rfl rfl rfl sz0 (fun W => str_cat y.2 [sgu m] (by simp; omega) W _ _) ?_
      first | refine ZE.assign rfl rfl rfl rfl sz0 ?_
      rintro W13 hb13
      refine pn_block ?_
      refine EW.on ?_
      refine EW.region ?_
      first | refine WL.move rfl rfl rfl ?_
      refine WL.bin rfl rfl rfl rfl (int_add (c := ((y.1 + 1 : Nat) : Int)) (by rw [IntKind.wrap_i64]; omega) _ _ _) ?_
      first | refine WL.assign rfl rfl rfl ?_
      refine WL.done ?_
      exact EW.again (E := tE2 a b d vg at' by' q1 q2 x.1) (R := fun y W => y.1 ≤ 3 ∧ okT y.2 = true ∧ dgt y.2 = d.take x.1 ∧ y.2.length ≤ 4 * x.1 + y.1 ∧ Below w4.heap.size w4 W) (m := fun y => 4 - y.1) (x := y) (y.1 + 1, y.2 ++ [sgu m]) [0, 2, 4, 5, 6, 8, 10, 17, 18, 19, 20] rfl ⟨by show y.1 + 1 ≤ 3; omega, (snoc_P (sgu_P m hm4)).2 oky, by show dgt (y.2 ++ [sgu m]) = _; rw [(snoc_P (sgu_P m hm4)).1, dgy], by show (y.2 ++ [sgu m]).length ≤ 4 * x.1 + (y.1 + 1); simp; omega, bt hb hb13⟩ (by show 4 - (y.1 + 1) < 4 - y.1; omega)
  · refine EW.exit ?_
    refine px_then ?_
    refine px_then ?_
    refine px_block ?_
    refine EW.on ?_
    refine EW.seq ?_
    have h60 : x.1 = 60 := by omega
    rw [h60, List.take_of_length_le (by omega)] at dgx
    have c15 := c14.on l5
    have c25 := c24.on l5
    have L5 := L4.on l5
    have B5 := bt B4 l5
    have hmE0 : rd (x.2 ++ [10]) = d ∧ rdE (x.2 ++ [10]) = 0 := by
      have ho : rdOk (x.2 ++ [10]) := ⟨(snoc_P (show isP 10 = true by decide)).2 okx, by rw [(snoc_P (show isP 10 = true by decide)).1, dgx]; exact hdl⟩
      rw [(rd_yes ho).1, (rd_yes ho).2, (snoc_P (show isP 10 = true by decide)).1, dgx]; exact ⟨rfl, rfl⟩
    have hmE : mtE (x.2 ++ [10]) a b = 0 := by unfold mtE; rw [if_pos hmE0.2, eE]
    have hmD : mtD (x.2 ++ [10]) a ka b kb = true := by unfold mtD; rw [if_pos hmE, hmE0.1, hbD]; exact decide_eq_true rfl
    have hxE : rdE (x.2 ++ [48]) = 250 := rdE_len (by rw [(snoc_D (show isD 48 = true by decide)).1, dgx, List.length_append, hdl]; decide)
    have hoE : rdE (d.drop 1) = 250 := rdE_len (by rw [dgt_all (fun u hu => hdD u (List.mem_of_mem_drop hu)), List.length_drop, hdl]; decide)
    refine EW.region ?_
    first | refine WL.move rfl rfl rfl ?_
    refine WL.bin rfl rfl rfl rfl (str_cat x.2 [10] (by simp; omega) _ _ _) ?_
    first | refine WL.move rfl rfl rfl ?_
    refine WL.load rfl rfl rfl (ld23 c15 hKa) ?_
    first | refine WL.move rfl rfl rfl ?_
    refine WL.load rfl rfl rfl (ld23 c25 hKb) ?_
    refine WL.call [sv (x.2 ++ [10]), sv a, kv ka, sv b, kv kb] enter13 rfl rfl rfl (match_any _ a ka b kb hKa hKb W5 L5) ?_
    rintro _ w6 ⟨rfl, l6⟩
    rw [hmD, hmE]
    refine ⟨_, rfl, ?_⟩
    have c16 := c15.on l6
    have c26 := c25.on l6
    have L6 := L5.on l6
    have B6 := bt B5 l6
    first | refine WL.move rfl rfl rfl ?_
    first | refine WL.extract rfl rfl rfl (ext_2 _ _ _).1 ?_
    first | refine WL.extract rfl rfl rfl (ext_2 _ _ _).2 ?_
    first | refine WL.assign rfl rfl rfl ?_
    first | refine WL.assign rfl rfl rfl ?_
    refine WL.done ?_
    refine EW.on ?_
    refine EW.seq ?_
    refine EW.region ?_
    first | refine WL.move rfl rfl rfl ?_
    refine WL.call [.int .i64 at', .int .i64 60] enter16 rfl rfl rfl (rest_any at' 60 (by decide) (by decide) w6) ?_
    rintro _ wz ⟨rfl, hz⟩
    rw [hz, hkk]
    clear hz wz
    refine ⟨_, rfl, ?_⟩
    first | refine WL.assign rfl rfl rfl ?_
    refine WL.done ?_
    refine EW.on ?_
    refine EW.seq ?_
    obtain ⟨u, hu⟩ : ∃ u, d[kk]? = some u := ⟨_, List.getElem?_eq_getElem (by omega)⟩
    obtain ⟨hu1, hu2⟩ : 48 ≤ u.toNat ∧ u.toNat ≤ 57 := of_decide_eq_true (hdD u (List.mem_of_getElem? hu))
    have hv0 : (UInt8.ofNat (u.toNat - 48)).toNat = u.toNat - 48 := by rw [UInt8.toNat_ofNat', Nat.mod_eq_of_lt (by omega)]
    have hdE : rdE (d.take kk ++ [46] ++ d.drop kk) = 250 := rdE_bad (by decide)
    refine EW.ordB [(0, 0, 0), (1, 0, 0), (2, 0, 0), (3, 0, 0), (4, 0, 0), (5, 0, 0), (6, 0, 0), (7, 1, 1), (8, 0, 0), (9, 0, 0), (10, 0, 0), (11, 0, 0), (12, 0, 0)] (by kernel_rfl) rfl (by kernel_rfl) ?_
    simp only [opsZ, List.getD_cons_zero, List.getD_cons_succ]
    first | refine ZE.move rfl rfl rfl rfl sz0 ?_
    first | refine ZE.move rfl rfl rfl rfl sz0 ?_
    refine ZE.idx rfl rfl rfl rfl rfl sz0 (fun W => idx_s d kk u hu W) ?_
    refine ZE.bin rfl rfl rfl rfl rfl sz0 (fun W => sub5 u hu1 W _ _) ?_
    refine ZE.conv rfl rfl rfl rfl sz0 (fun W _ => conv5_3 _ W) ?_
    refine ZE.bin rfl rfl rfl rfl rfl sz0 (fun W => int_add (c := ((u.toNat - 48 + 1 : Nat) : Int)) (by rw [hv0, IntKind.wrap_i64]; omega) W _ _) ?_
    first | refine ZE.move rfl rfl rfl rfl sz0 ?_
    refine ZE.callB (v := .int .i64 (r9 : Int)) [.int .i64 by', .int .i64 9] enter16 rfl rfl rfl (fun W h => .inr h) (fun W hW => (rest_any _ 9 (by decide) (by decide) W).mono fun e w' h => ⟨by rw [h.1, hr9], by rw [h.2]; exact Below.refl _ _⟩) ?_
    refine ZE.bin rfl rfl rfl rfl rfl sz0 (fun W => int_add (c := ((u.toNat - 48 + 1 + r9 : Nat) : Int)) (by rw [IntKind.wrap_i64]; omega) W _ _) ?_
    refine ZE.bin rfl rfl rfl rfl rfl sz0 (fun W => int_rem (c := (((u.toNat - 48 + 1 + r9) % 10 : Nat) : Int)) (by decide) (by rw [Int.tmod_eq_emod_of_nonneg (by omega)]; rfl) W _ _) ?_
    refine ZE.bin rfl rfl rfl rfl rfl sz0 (fun W => int_add (c := ((48 + (u.toNat - 48 + 1 + r9) % 10 : Nat) : Int)) (by rw [IntKind.wrap_i64]; omega) W _ _) ?_
    refine ZE.conv rfl rfl rfl rfl sz0 (fun W _ => conv3_5n _ W) ?_
    first | refine ZE.assign rfl rfl rfl rfl sz0 ?_
    rintro w7 l7
    have c17 := c16.on l7
    have c27 := c26.on l7
    have L7 := L6.on l7
    have B7 := bt B6 l7
    have hwE : mtE (d.take kk ++ [trn u r9] ++ d.drop (kk + 1)) a b = 0 := by unfold mtE; rw [cut_set _ (by omega), (rd_all (set_allD hdD (trn_D u r9)) (by rw [List.length_set]; exact hdl)).2, if_pos rfl, eE]
    have hwD : mtD (d.take kk ++ [trn u r9] ++ d.drop (kk + 1)) a ka b kb = false := by unfold mtD; rw [if_pos hwE, cut_set _ (by omega), (rd_all (set_allD hdD (trn_D u r9)) (by rw [List.length_set]; exact hdl)).1, hbD]; exact decide_eq_false (set_ne hu (trn_ne hu1 hu2 hr9l))
    refine EW.on ?_
    refine EW.seq ?_
    refine EW.ordB [(0, 0, 0), (1, 0, 0), (2, 0, 0), (3, 0, 0), (7, 0, 0), (8, 0, 0), (9, 0, 0), (10, 0, 0), (12, 0, 0), (13, 0, 1), (14, 0, 0), (15, 0, 1), (4, 1, 1), (5, 2, 0), (6, 0, 0), (11, 0, 0), (16, 1, 1), (17, 0, 0), (18, 0, 0), (19, 0, 0), (20, 0, 0), (21, 0, 0)] (by kernel_rfl) rfl (by kernel_rfl) ?_
    simp only [opsZ, List.getD_cons_zero, List.getD_cons_succ]
    first | refine ZE.move rfl rfl rfl rfl sz0 ?_
    first | refine ZE.move rfl rfl rfl rfl sz0 ?_
    refine ZE.sliceH rfl rfl rfl rfl rfl sz0 (fun W => cutH_s d kk (by omega) W) ?_
    first | refine ZE.move rfl rfl rfl rfl sz0 ?_
    first | refine ZE.move rfl rfl rfl rfl sz0 ?_
    first | refine ZE.move rfl rfl rfl rfl sz0 ?_
    refine ZE.bin rfl rfl rfl rfl rfl sz0 (fun W => int_add (c := ((kk + 1 : Nat) : Int)) (by rw [IntKind.wrap_i64]; omega) W _ _) ?_
    refine ZE.sliceL rfl rfl rfl rfl rfl sz0 (fun W => cutL_s d (kk + 1) (by omega) W) ?_
    first | refine ZE.move rfl rfl rfl rfl sz0 ?_
    refine ZE.load rfl rfl rfl rfl sz1 (fun W hW => ld23 (c17.on (sb_of hW)) hKa) ?_
    first | refine ZE.move rfl rfl rfl rfl sz0 ?_
    refine ZE.load rfl rfl rfl rfl sz1 (fun W hW => ld23 (c27.on (sb_of hW)) hKb) ?_
    refine ZE.bsl [(0, byt (trn u r9))] (fun v W' => Has W' v [trn u r9] ∧ Below w7.heap.size w7 W') rfl rfl rfl (fun v W' h => .inr h.2) (fun W hW => ⟨_, _, bsl27_1 _ W, has_news W [trn u r9], bt hW (below_new _ _)⟩) ?_
    rintro vB ⟨_, _, _⟩
    refine ZE.conv rfl rfl rfl rfl szC (fun W hW => (szc_of hW).1.convert) ?_
    refine ZE.bin rfl rfl rfl rfl rfl sz0 (fun W => str_cat (d.take kk) [trn u r9] (by rw [List.length_take]; simp; omega) W _ _) ?_
    refine ZE.bin rfl rfl rfl rfl rfl sz0 (fun W => str_cat (d.take kk ++ [trn u r9]) (d.drop (kk + 1)) (by rw [List.length_append, List.length_take, List.length_drop]; simp; omega) W _ _) ?_
    refine ZE.callR [sv (d.take kk ++ [trn u r9] ++ d.drop (kk + 1)), sv a, kv ka, sv b, kv kb] (fun v W' => v = .tuple #[.bool false, .int .i64 0] ∧ Below w7.heap.size w7 W') enter13 rfl rfl rfl (fun v W' h => .inr h.2) (fun W hW => (match_any _ a ka b kb hKa hKb W (L7.on hW.2)).mono fun e w' h => ⟨_, by rw [h.1, hwD, hwE], rfl, bt hW.2 h.2⟩) ?_
    rintro vm ⟨_, rfl, _⟩
    first | refine ZE.move rfl rfl rfl rfl sz0 ?_
    first | refine ZE.extract rfl rfl rfl rfl sz0 (fun W => (ext_2 _ _ W).1) ?_
    first | refine ZE.extract rfl rfl rfl rfl sz0 (fun W => (ext_2 _ _ W).2) ?_
    first | refine ZE.assign rfl rfl rfl rfl sz0 ?_
    first | refine ZE.assign rfl rfl rfl rfl sz0 ?_
    rintro w8 ⟨_, l8⟩
    have c18 := c17.on l8
    have c28 := c27.on l8
    have L8 := L7.on l8
    have B8 := bt B7 l8
    refine EW.on ?_
    refine EW.seq ?_
    refine EW.region ?_
    first | refine WL.move rfl rfl rfl ?_
    refine WL.bin rfl rfl rfl rfl (str_cat x.2 [48] (by simp; omega) _ _ _) ?_
    refine WL.call [sv (x.2 ++ [48])] enter15 rfl rfl rfl (read_any _ w8) ?_
    rintro _ w9 ⟨rfl, l9⟩
    rw [hxE]
    refine ⟨_, rfl, ?_⟩
    have c19 := c18.on l9
    have c29 := c28.on l9
    have L9 := L8.on l9
    have B9 := bt B8 l9
    first | refine WL.move rfl rfl rfl ?_
    first | refine WL.extract rfl rfl rfl (ext_2 _ _ _).1 ?_
    first | refine WL.extract rfl rfl rfl (ext_2 _ _ _).2 ?_
    first | refine WL.assign rfl rfl rfl ?_
    first | refine WL.assign rfl rfl rfl ?_
    refine WL.done ?_
    refine EW.on ?_
    refine EW.seq ?_
    refine EW.region ?_
    first | refine WL.move rfl rfl rfl ?_
    refine WL.sliceL rfl rfl rfl rfl (cutL_s d 1 (by omega) _) ?_
    refine WL.call [sv (d.drop 1)] enter15 rfl rfl rfl (read_any _ w9) ?_
    rintro _ w9b ⟨rfl, l9b⟩
    rw [hoE]
    refine ⟨_, rfl, ?_⟩
    have c19b := c19.on l9b
    have c29b := c29.on l9b
    have L9b := L9.on l9b
    have B9b := bt B9 l9b
    first | refine WL.move rfl rfl rfl ?_
    first | refine WL.extract rfl rfl rfl (ext_2 _ _ _).1 ?_
    first | refine WL.extract rfl rfl rfl (ext_2 _ _ _).2 ?_
    first | refine WL.assign rfl rfl rfl ?_
    first | refine WL.assign rfl rfl rfl ?_
    refine WL.done ?_
    refine EW.on ?_
    refine EW.seq ?_
    refine EW.ordB [(0, 0, 0), (1, 0, 0), (2, 0, 0), (3, 0, 0), (4, 0, 0), (5, 0, 0), (6, 0, 0), (7, 0, 0), (8, 1, 1), (9, 0, 0), (10, 0, 0), (11, 0, 0), (12, 0, 0), (13, 0, 0)] (by kernel_rfl) rfl (by kernel_rfl) ?_
    simp only [opsZ, List.getD_cons_zero, List.getD_cons_succ]
    first | refine ZE.move rfl rfl rfl rfl sz0 ?_
    first | refine ZE.move rfl rfl rfl rfl sz0 ?_
    refine ZE.sliceH rfl rfl rfl rfl rfl sz0 (fun W => cutH_s d kk (by omega) W) ?_
    refine ZE.bin rfl rfl rfl rfl rfl sz0 (fun W => str_cat (d.take kk) [46] (by rw [List.length_take]; simp; omega) W _ _) ?_
    first | refine ZE.move rfl rfl rfl rfl sz0 ?_
    first | refine ZE.move rfl rfl rfl rfl sz0 ?_
    refine ZE.sliceL rfl rfl rfl rfl rfl sz0 (fun W => cutL_s d kk (by omega) W) ?_
    refine ZE.bin rfl rfl rfl rfl rfl sz0 (fun W => str_cat (d.take kk ++ [46]) (d.drop kk) (by rw [List.length_append, List.length_take, List.length_drop]; simp; omega) W _ _) ?_
    refine ZE.callB (v := .tuple #[sv (rd (d.take kk ++ [46] ++ d.drop kk)), .int .i64 250]) [sv (d.take kk ++ [46] ++ d.drop kk)] enter15 rfl rfl rfl (fun W h => .inr h) (fun W hW => (read_any _ W).mono fun e w' h => ⟨by rw [h.1, hdE], h.2⟩) ?_
    first | refine ZE.move rfl rfl rfl rfl sz0 ?_
    first | refine ZE.extract rfl rfl rfl rfl sz0 (fun W => (ext_2 _ _ W).1) ?_
    first | refine ZE.extract rfl rfl rfl rfl sz0 (fun W => (ext_2 _ _ W).2) ?_
    first | refine ZE.assign rfl rfl rfl rfl sz0 ?_
    first | refine ZE.assign rfl rfl rfl rfl sz0 ?_
    rintro w10 l10
    have c110 := c19b.on l10
    have c210 := c29b.on l10
    have L10 := L9b.on l10
    have B10 := bt B9b l10
    refine EW.on ?_
    refine EW.seq ?_
    refine EW.region ?_
    refine WL.bslN [(0, sv [196, 176]), (1, sv [196, 185]), (2, sv [239, 188, 144]), (3, sv [217, 160]), (4, sv [176]), (5, sv [255]), (6, sv [0]), (7, sv [226, 128, 176])] rfl rfl rfl (bsl41_8 w10) ?_
    have l11 := below_new w10 (.cells (frn.map sv).toArray 9)
    have bF : Blk (w10.alloc (.cells (frn.map sv).toArray 9)) w10.heap.size (frn.map sv) 9 := Blk.new _ _ _
    generalize w10.alloc (.cells (frn.map sv).toArray 9) = w11 at l11 bF ⊢
    first | refine WL.assign rfl rfl rfl ?_
    refine WL.done ?_
    refine EW.on ?_
    refine EW.seq ?_
    have hfE : rdE (d.take kk ++ f ++ d.drop (kk + 1)) = 250 := rdE_bad hfb.1
    refine EW.ordB [(0, 0, 0), (1, 0, 0), (2, 0, 0), (3, 0, 0), (4, 0, 0), (5, 0, 0), (6, 0, 0), (11, 0, 0), (12, 0, 0), (13, 0, 0), (14, 0, 0), (7, 1, 1), (8, 0, 0), (9, 0, 1), (10, 0, 0), (15, 0, 0), (16, 1, 1), (17, 0, 0), (18, 0, 0), (19, 0, 0), (20, 0, 0), (21, 0, 0)] (by kernel_rfl) rfl (by kernel_rfl) ?_
    simp only [opsZ, List.getD_cons_zero, List.getD_cons_succ]
    first | refine ZE.move rfl rfl rfl rfl sz0 ?_
    first | refine ZE.move rfl rfl rfl rfl sz0 ?_
    refine ZE.sliceH rfl rfl rfl rfl rfl sz0 (fun W => cutH_s d kk (by omega) W) ?_
    first | refine ZE.move rfl rfl rfl rfl sz0 ?_
    first | refine ZE.move rfl rfl rfl rfl sz0 ?_
    first | refine ZE.move rfl rfl rfl rfl sz0 ?_
    refine ZE.len rfl rfl rfl rfl sz0 (fun W => len41 _ _ _ _ W) ?_
    first | refine ZE.move rfl rfl rfl rfl sz0 ?_
    first | refine ZE.move rfl rfl rfl rfl sz0 ?_
    refine ZE.bin rfl rfl rfl rfl rfl sz0 (fun W => int_add (c := ((kk + 1 : Nat) : Int)) (by rw [IntKind.wrap_i64]; omega) W _ _) ?_
    refine ZE.sliceL rfl rfl rfl rfl rfl sz0 (fun W => cutL_s d (kk + 1) (by omega) W) ?_
    refine ZE.callB (v := .int .i64 (m8 : Int)) [.int .i64 by', .int .i64 8] enter16 rfl rfl rfl (fun W h => .inr h) (fun W hW => (rest_any _ 8 (by decide) (by decide) W).mono fun e w' h => ⟨by rw [h.1, hm8], by rw [h.2]; exact Below.refl _ _⟩) ?_
    refine ZE.index rfl rfl rfl rfl rfl sz0 (fun W => idx41 w10.heap.size m8 hm8l W) ?_
    refine ZE.load rfl rfl rfl rfl sz1 (fun W hW => ld9 (((bF.on (sb_of hW)).cell m8).trans hfc)) ?_
    refine ZE.bin rfl rfl rfl rfl rfl sz0 (fun W => str_cat (d.take kk) f (by rw [List.length_take]; have := hfb.2; omega) W _ _) ?_
    refine ZE.bin rfl rfl rfl rfl rfl sz0 (fun W => str_cat (d.take kk ++ f) (d.drop (kk + 1)) (by rw [List.length_append, List.length_take, List.length_drop]; have := hfb.2; omega) W _ _) ?_
    refine ZE.callB (v := .tuple #[sv (rd (d.take kk ++ f ++ d.drop (kk + 1))), .int .i64 250]) [sv (d.take kk ++ f ++ d.drop (kk + 1))] enter15 rfl rfl rfl (fun W h => .inr h) (fun W hW => (read_any _ W).mono fun e w' h => ⟨by rw [h.1, hfE], h.2⟩) ?_
    first | refine ZE.move rfl rfl rfl rfl sz0 ?_
    first | refine ZE.extract rfl rfl rfl rfl sz0 (fun W => (ext_2 _ _ W).1) ?_
    first | refine ZE.extract rfl rfl rfl rfl sz0 (fun W => (ext_2 _ _ W).2) ?_
    first | refine ZE.assign rfl rfl rfl rfl sz0 ?_
    first | refine ZE.assign rfl rfl rfl rfl sz0 ?_
    rintro w12 l12
    refine EW.on ?_
    refine EW.seq ?_
    refine EW.seq ?_
    refine EW.region ?_
    first | refine WL.move rfl rfl rfl ?_
    refine WL.bin rfl rfl rfl rfl (int_ne_f rfl _ _ _) ?_
    first | refine WL.move rfl rfl rfl ?_
    first | refine WL.move rfl rfl rfl ?_ | refine WL.skip _ rfl rfl rfl ?_
    refine WL.un rfl rfl rfl (not_t _ _) ?_
    first | refine WL.pick rfl rfl rfl rfl ?_
    first | refine WL.move rfl rfl rfl ?_
    first | refine WL.move rfl rfl rfl ?_ | refine WL.skip _ rfl rfl rfl ?_
    refine WL.bin rfl rfl rfl rfl (int_ne_f rfl _ _ _) ?_
    first | refine WL.pick rfl rfl rfl rfl ?_
    first | refine WL.move rfl rfl rfl ?_
    first | refine WL.move rfl rfl rfl ?_ | refine WL.skip _ rfl rfl rfl ?_
    first | refine WL.pick rfl rfl rfl rfl ?_
    refine WL.done ?_
    refine EW.on ?_
    refine EW.cond_f rfl ?_
    refine EW.skip ?_
    refine EW.on ?_
    refine EW.seq ?_
    refine EW.region ?_
    first | refine WL.move rfl rfl rfl ?_
    refine WL.bin rfl rfl rfl rfl (int_eq_t rfl _ _ _) ?_
    first | refine WL.move rfl rfl rfl ?_
    first | refine WL.move rfl rfl rfl ?_ | refine WL.skip _ rfl rfl rfl ?_
    refine WL.bin rfl rfl rfl rfl (int_eq_t rfl _ _ _) ?_
    first | refine WL.pick rfl rfl rfl rfl ?_
    first | refine WL.move rfl rfl rfl ?_
    first | refine WL.move rfl rfl rfl ?_ | refine WL.skip _ rfl rfl rfl ?_
    refine WL.bin rfl rfl rfl rfl (int_eq_t rfl _ _ _) ?_
    first | refine WL.pick rfl rfl rfl rfl ?_
    first | refine WL.move rfl rfl rfl ?_
    first | refine WL.move rfl rfl rfl ?_ | refine WL.skip _ rfl rfl rfl ?_
    refine WL.bin rfl rfl rfl rfl (int_eq_t rfl _ _ _) ?_
    first | refine WL.pick rfl rfl rfl rfl ?_
    first | refine WL.assign rfl rfl rfl ?_
    refine WL.done ?_
    refine EW.on ?_
    refine EW.ret ?_
    exact EW.returns Tryd.results6 rfl ⟨rfl, bt (bt l1 l2) (bt (bt B10 l11) l12)⟩
end Go.Proofs.YtnfikgnploockaaDoor
