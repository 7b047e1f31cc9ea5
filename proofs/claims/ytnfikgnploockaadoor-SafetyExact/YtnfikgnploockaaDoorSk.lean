import Derived.Test.YtnfikgnploockaaDoorSj
set_option linter.unusedVariables false
set_option linter.unusedSimpArgs false
namespace Go.Proofs.YtnfikgnploockaaDoor
open Go.RowKit

/-- Halves, whichever comes first. -/
theorem less_irr : ∀ a : List UInt8, Op.bytesLess a a = false
  | [] => rfl
  | a :: x => by
    unfold Op.bytesLess
    rw [less_irr x]
    simp
theorem less_asym : ∀ a b : List UInt8, Op.bytesLess a b = true → Op.bytesLess b a = false
  | [], [], h => by cases h
  | [], _ :: _, _ => rfl
  | _ :: _, [], h => by cases h
  | a :: x, b :: y, h => by
    unfold Op.bytesLess at h ⊢
    simp only [Bool.or_eq_true, decide_eq_true_eq, Bool.and_eq_true, beq_iff_eq, Bool.or_eq_false_iff, decide_eq_false_iff_not, Bool.and_eq_false_iff, beq_eq_false_iff_ne] at h ⊢
    rcases h with h | ⟨rfl, h⟩
    · have h' := UInt8.lt_iff_toNat_lt.1 h
      exact ⟨fun e => by have := UInt8.lt_iff_toNat_lt.1 e; omega, .inl (fun e => by subst e; omega)⟩
    · exact ⟨fun e => by have := UInt8.lt_iff_toNat_lt.1 e; omega, .inr (less_asym x y h)⟩
theorem less_tot : ∀ a b : List UInt8, Op.bytesLess a b = false → Op.bytesLess b a = false → a = b
  | [], [], _, _ => rfl
  | [], _ :: _, h, _ => by cases h
  | _ :: _, [], _, h => by cases h
  | a :: x, b :: y, h1, h2 => by
    unfold Op.bytesLess at h1 h2
    simp only [Bool.or_eq_false_iff, decide_eq_false_iff_not, Bool.and_eq_false_iff, beq_eq_false_iff_ne] at h1 h2
    have e : a = b := by
      have g1 := h1.1
      have g2 := h2.1
      rw [UInt8.lt_iff_toNat_lt] at g1 g2
      exact UInt8.toNat_inj.1 (by omega)
    subst e
    have k1 := h1.2.resolve_left (by simp)
    have k2 := h2.2.resolve_left (by simp)
    rw [less_tot x y k1 k2]
theorem srt_comm (x y : List UInt8) : srt x y = srt y x := by
  unfold srt
  by_cases h1 : Op.bytesLess y x = true
  · rw [if_pos h1, if_neg (by rw [less_asym _ _ h1]; simp)]
  · by_cases h2 : Op.bytesLess x y = true
    · rw [if_neg h1, if_pos h2]
    · rw [if_neg h1, if_neg h2, less_tot x y (by simpa using h2) (by simpa using h1)]
theorem bhE_two {a b : List UInt8} (ha : nmE a = 0) (hb : nmE b = 0) : bhE a b = 0 := by unfold bhE; rw [if_pos ha, hb]
theorem bhD_two {a b : List UInt8} (ka kb : List UInt8) (ha : nmE a = 0) (hb : nmE b = 0) : bhD a ka b kb = srt (half a ka) (half b kb) := by unfold bhD; rw [if_pos (bhE_two ha hb)]
theorem numD_two {a b : List UInt8} (ka kb : List UInt8) (ha : nmE a = 0) (hb : nmE b = 0) : numD a ka b kb = nG (srt (half a ka) (half b kb)) 12 := by unfold numD; rw [if_pos (bhE_two ha hb), bhD_two ka kb ha hb]
/-- All of them digits. -/
def allD (l : List UInt8) : Prop := ∀ u ∈ l, isD u = true
theorem d5_allD (n : Nat) : allD (d5 n) := fun u hu => by
  obtain ⟨j, hj⟩ := List.getElem?_of_mem hu
  have := d5_dig n j u hj
  exact decide_eq_true (by omega)
theorem hP_allD (D : List UInt8) (g : Nat) : allD (hP D g) := fun u hu => by
  unfold hP at hu
  obtain ⟨k, _, hk⟩ := List.mem_flatMap.1 hu
  exact d5_allD _ u hk
theorem half_allD (a k : List UInt8) : allD (half a k) := by unfold half; exact hP_allD _ _
theorem srt_allD {x y : List UInt8} (hx : allD x) (hy : allD y) : allD (srt x y) := fun u hu => by
  unfold srt at hu
  split at hu <;> rcases List.mem_append.1 hu with h | h
  · exact hy u h
  · exact hx u h
  · exact hx u h
  · exact hy u h
theorem dgt_all {l : List UInt8} (h : allD l) : dgt l = l := List.filter_eq_self.2 h
theorem okT_all {l : List UInt8} (h : allD l) : okT l = true := by
  unfold okT
  rw [List.all_eq_true]
  exact fun u hu => by rw [h u hu, Bool.or_true]
theorem dgt_app (a b : List UInt8) : dgt (a ++ b) = dgt a ++ dgt b := List.filter_append ..
theorem okT_app (a b : List UInt8) : okT (a ++ b) = (okT a && okT b) := List.all_append ..
theorem grp_allD {l : List UInt8} (h : allD l) (k : Nat) : allD (grp l k) := fun u hu => h u (List.mem_of_mem_drop (List.mem_of_mem_take hu))
theorem nG_dgt {l : List UInt8} (h : allD l) : ∀ n, dgt (nG l n) = l.take (5 * n) ∧ okT (nG l n) = true
  | 0 => ⟨by simp [nG, dgt], rfl⟩
  | n + 1 => by
    obtain ⟨h1, h2⟩ := nG_dgt h n
    have hs : dgt (if 0 < n then [32] else []) = [] ∧ okT (if 0 < n then [32] else []) = true := by split <;> exact ⟨by decide, by decide⟩
    rw [nG, dgt_app, dgt_app, okT_app, okT_app, h1, h2, hs.1, hs.2, dgt_all (grp_allD h n), okT_all (grp_allD h n)]
    refine ⟨?_, rfl⟩
    unfold grp
    rw [List.nil_append, show 5 * (n + 1) = 5 * n + 5 by omega, List.take_add]
theorem nG_rd {l : List UInt8} (h : allD l) (hl : l.length = 60) : rd (nG l 12) = l ∧ rdE (nG l 12) = 0 ∧ dgt (nG l 12) = l := by
  obtain ⟨h1, h2⟩ := nG_dgt h 12
  have h3 : dgt (nG l 12) = l := by rw [h1, List.take_of_length_le (by omega)]
  have ho : rdOk (nG l 12) := ⟨h2, by rw [h3]; exact hl⟩
  rw [(rd_yes ho).1, (rd_yes ho).2]
  exact ⟨h3, rfl, h3⟩
/-- Where the blanks stand. -/
theorem nG_at {l : List UInt8} (h : allD l) (hl : l.length = 60) : ∀ n, n ≤ 12 → ∀ (k : Nat) (u : UInt8), (nG l n)[k]? = some u → (u = 32 ↔ k % 6 = 5)
  | 0, _, k, u, hu => by simp [nG] at hu
  | n + 1, hn, k, u, hu => by
    have hlen := nG_len hl n (by omega)
    rw [nG] at hu
    rcases Nat.lt_or_ge k (nG l n).length with hk | hk
    · rw [List.getElem?_append_left hk] at hu
      exact nG_at h hl n (by omega) k u hu
    · rw [List.getElem?_append_right hk] at hu
      have hg : ∀ j, (grp l n)[j]? = some u → ¬ u = 32 := fun j hj e => by
        have := grp_allD h n u (List.mem_of_getElem? hj)
        subst e
        exact absurd this (by decide)
      by_cases h0 : 0 < n
      · rw [if_pos h0] at hu
        rcases Nat.lt_or_ge (k - (nG l n).length) 1 with hk1 | hk1
        · have e : k - (nG l n).length = 0 := by omega
          rw [e] at hu
          simp only [List.cons_append, List.nil_append, List.getElem?_cons_zero, Option.some.injEq] at hu
          subst hu
          exact ⟨fun _ => by omega, fun _ => rfl⟩
        · rw [List.getElem?_append_right (by simpa using hk1)] at hu
          have hj := (List.getElem?_eq_some_iff.1 hu).1
          rw [grp_len hl (by omega)] at hj
          simp only [List.length_cons, List.length_nil] at hj
          exact ⟨fun e => absurd e (hg _ hu), fun e => by omega⟩
      · rw [if_neg h0] at hu
        have hj := (List.getElem?_eq_some_iff.1 hu).1
        rw [List.nil_append, grp_len hl (by omega)] at hj
        exact ⟨fun e => absurd e (hg _ hu), fun e => by omega⟩
theorem bool_ne_f {a b : Bool} (h : a = b) (W : World) (x y : Operand) : (do eqGuard .neq 4 x y (.bool a) (.bool b); binOp .neq 4 (.bool a) (.bool b) : Sem Value).run Tryd.prog W = .ok (.bool false) W := by
  subst h
  cases a <;> go_simp
def kE (a b N g h : List UInt8) (q1 q2 : Nat) (k : Nat) : List (Nat × Value) := [(0, sv a), (2, sv b), (5, .pointer (some ⟨q1, 0, none⟩)), (7, .pointer (some ⟨q2, 0, none⟩)), (9, sv N), (13, sv g), (15, sv h), (17, .int .i64 (k : Int))]
set_option maxRecDepth 100000 in
set_option maxHeartbeats 4000000 in
theorem same_any (a0 ka b0 kb : List UInt8) (hKa : ka.length = 32) (hKb : kb.length = 32) (w : World) (hL : Lst w) : Calls Tryd.prog 5 #[sv a0, kv ka, sv b0, kv kb] w fun e w' => e = .returned (.bool true) ∧ Below w.heap.size w w' := by
  obtain ⟨w1, q1, r1, b1, l1, hq1⟩ := box23 ka w
  obtain ⟨w2, q2, r2, c22, l2, hq2⟩ := box23 kb w1
  have c12 := b1.on l2
  have L2 := (hL.on l1).on l2
  have B2 := Below.refl w2.heap.size w2
  obtain ⟨a, hna⟩ : ∃ a, nmd a0 = a := ⟨_, rfl⟩
  obtain ⟨b, hnb⟩ : ∃ b, nmd b0 = b := ⟨_, rfl⟩
  have oka : nmE a = 0 := by rw [← hna]; exact nmd_ok a0
  have okb : nmE b = 0 := by rw [← hnb]; exact nmd_ok b0
  obtain ⟨g, eg, hgl, hgD, eg'⟩ : ∃ g, haD a ka = g ∧ g.length = 30 ∧ allD g ∧ half a ka = g := ⟨_, by unfold haD; rw [if_pos oka], half_len a ka, half_allD a ka, rfl⟩
  obtain ⟨h, eh, hhl, hhD, eh'⟩ : ∃ h, haD b kb = h ∧ h.length = 30 ∧ allD h ∧ half b kb = h := ⟨_, by unfold haD; rw [if_pos okb], half_len b kb, half_allD b kb, rfl⟩
  obtain ⟨d, hd⟩ : ∃ d, srt g h = d := ⟨_, rfl⟩
  have hdl : d.length = 60 := by rw [← hd, srt_len, hgl, hhl]
  have hdD : allD d := by rw [← hd]; exact srt_allD hgD hhD
  have hd1 : Op.bytesLess h g = true → d = h ++ g := fun e => by rw [← hd]; unfold srt; rw [if_pos e]
  have hd2 : Op.bytesLess h g = false → d = g ++ h := fun e => by rw [← hd]; unfold srt; rw [if_neg (by rw [e]; simp)]
  have eE := bhE_two oka okb
  have eE' := bhE_two okb oka
  have eN0 : numD a ka b kb = nG d 12 := by rw [numD_two ka kb oka okb, eg', eh', hd]
  have eN0' : numD b kb a ka = nG d 12 := by rw [numD_two kb ka okb oka, eg', eh', srt_comm, hd]
  have hbD : bhD b kb a ka = d := by rw [bhD_two kb ka okb oka, eg', eh', srt_comm, hd]
  obtain ⟨hr0, hr1, hr2⟩ := nG_rd hdD hdl
  have hNat0 := nG_at hdD hdl 12 (Nat.le_refl _)
  have hNl0 := nG_len hdl 12 (Nat.le_refl _)
  obtain ⟨N, hN⟩ : ∃ N, nG d 12 = N := ⟨_, rfl⟩
  rw [hN] at hr0 hr1 hr2 hNat0 hNl0 eN0 eN0'
  have eN : numD a ka b kb = N := eN0
  have eN' : numD b kb a ka = N := eN0'
  have hNl : N.length = 71 := hNl0
  have hNat : ∀ (k : Nat) (u : UInt8), N[k]? = some u → (u = 32 ↔ k % 6 = 5) := hNat0
  have hdN : dgt N = d := hr2
  have hrN : rd N = d := hr0
  have hrE : rdE N = 0 := hr1
  have hmE : mtE N b a = 0 := by unfold mtE; rw [if_pos hrE, eE']
  have hmD : mtD N b kb a ka = true := by unfold mtD; rw [if_pos hmE, hrN, hbD]; exact decide_eq_true rfl
  clear hr0 hr1 hr2 hNat0 hNl0 eN0 eN0' hd hN hbD
  refine calls_of_args [sv a0, kv ka, sv b0, kv kb] Tryd.func5 rfl 148 Tryd.ntmps5 (by show 4 ≤ 148; decide) ?_
  refine EW.seq ?_
  refine EW.region ?_
  refine WL.box rfl rfl rfl r1 ?_
  refine WL.box rfl rfl rfl r2 ?_
  first | refine WL.assign rfl rfl rfl ?_
  refine WL.done ?_
  refine EW.on ?_
  refine EW.seq ?_
  refine EW.region ?_
  first | refine WL.move rfl rfl rfl ?_
  refine WL.call [sv a0] enter8 rfl rfl rfl (named_any a0 w2) ?_
  rintro _ wz ⟨rfl, hz⟩
  rw [hz, hna]
  clear hz wz
  refine ⟨_, rfl, ?_⟩
  first | refine WL.move rfl rfl rfl ?_
  refine WL.call [sv b0] enter8 rfl rfl rfl (named_any b0 w2) ?_
  rintro _ wz ⟨rfl, hz⟩
  rw [hz, hnb]
  clear hz wz
  refine ⟨_, rfl, ?_⟩
  first | refine WL.assign rfl rfl rfl ?_
  first | refine WL.assign rfl rfl rfl ?_
  refine WL.done ?_
  refine EW.on ?_
  refine EW.seq ?_
  refine EW.region ?_
  first | refine WL.move rfl rfl rfl ?_
  refine WL.load rfl rfl rfl (ld23 c12 hKa) ?_
  first | refine WL.move rfl rfl rfl ?_
  refine WL.load rfl rfl rfl (ld23 c22 hKb) ?_
  refine WL.call [sv a, kv ka, sv b, kv kb] enter12 rfl rfl rfl (number_any a ka b kb hKa hKb w2 L2) ?_
  rintro _ w3 ⟨rfl, l3⟩
  rw [eE, eN]
  refine ⟨_, rfl, ?_⟩
  have c13 := c12.on l3
  have c23 := c22.on l3
  have L3 := L2.on l3
  have B3 := bt B2 l3
  first | refine WL.move rfl rfl rfl ?_
  first | refine WL.extract rfl rfl rfl (ext_2 _ _ _).1 ?_
  first | refine WL.extract rfl rfl rfl (ext_2 _ _ _).2 ?_
  first | refine WL.assign rfl rfl rfl ?_
  first | refine WL.assign rfl rfl rfl ?_
  refine WL.done ?_
  refine EW.on ?_
  refine EW.seq ?_
  refine EW.region ?_
  first | refine WL.move rfl rfl rfl ?_
  refine WL.load rfl rfl rfl (ld23 c23 hKb) ?_
  first | refine WL.move rfl rfl rfl ?_
  refine WL.load rfl rfl rfl (ld23 c13 hKa) ?_
  refine WL.call [sv b, kv kb, sv a, kv ka] enter12 rfl rfl rfl (number_any b kb a ka hKb hKa w3 L3) ?_
  rintro _ w4 ⟨rfl, l4⟩
  rw [eE', eN']
  refine ⟨_, rfl, ?_⟩
  have c14 := c13.on l4
  have c24 := c23.on l4
  have L4 := L3.on l4
  have B4 := bt B3 l4
  first | refine WL.move rfl rfl rfl ?_
  first | refine WL.extract rfl rfl rfl (ext_2 _ _ _).1 ?_
  first | refine WL.extract rfl rfl rfl (ext_2 _ _ _).2 ?_
  first | refine WL.assign rfl rfl rfl ?_
  first | refine WL.assign rfl rfl rfl ?_
  refine WL.done ?_
  refine EW.on ?_
  refine EW.seq ?_
  refine EW.region ?_
  first | refine WL.move rfl rfl rfl ?_
  refine WL.load rfl rfl rfl (ld23 c14 hKa) ?_
  refine WL.call [sv a, kv ka] enter10 rfl rfl rfl (half_any a ka hKa w4 L4) ?_
  rintro _ w5 ⟨rfl, l5⟩
  rw [eg, oka]
  refine ⟨_, rfl, ?_⟩
  have c15 := c14.on l5
  have c25 := c24.on l5
  have L5 := L4.on l5
  have B5 := bt B4 l5
  first | refine WL.move rfl rfl rfl ?_
  first | refine WL.extract rfl rfl rfl (ext_2 _ _ _).1 ?_
  first | refine WL.extract rfl rfl rfl (ext_2 _ _ _).2 ?_
  first | refine WL.assign rfl rfl rfl ?_
  first | refine WL.assign rfl rfl rfl ?_
  refine WL.done ?_
  refine EW.on ?_
  refine EW.seq ?_
  refine EW.region ?_
  first | refine WL.move rfl rfl rfl ?_
  refine WL.load rfl rfl rfl (ld23 c25 hKb) ?_
  refine WL.call [sv b, kv kb] enter10 rfl rfl rfl (half_any b kb hKb w5 L5) ?_
  rintro _ w6 ⟨rfl, l6⟩
  rw [eh, okb]
  refine ⟨_, rfl, ?_⟩
  have c16 := c15.on l6
  have c26 := c25.on l6
  have L6 := L5.on l6
  have B6 := bt B5 l6
  first | refine WL.move rfl rfl rfl ?_
  first | refine WL.extract rfl rfl rfl (ext_2 _ _ _).1 ?_
  first | refine WL.extract rfl rfl rfl (ext_2 _ _ _).2 ?_
  first | refine WL.assign rfl rfl rfl ?_
  first | refine WL.assign rfl rfl rfl ?_
  refine WL.done ?_
  refine EW.on ?_
  refine EW.seq ?_
  refine EW.seq ?_
  refine EW.region ?_
  first | refine WL.move rfl rfl rfl ?_
  refine WL.bin rfl rfl rfl rfl (int_ne_f rfl _ _ _) ?_
  first | refine WL.move rfl rfl rfl ?_
  first | refine WL.move rfl rfl rfl ?_ | refine WL.skip _ rfl rfl rfl ?_
  refine WL.bin rfl rfl rfl rfl (int_ne_f rfl _ _ _) ?_
  first | refine WL.pick rfl rfl rfl rfl ?_
  first | refine WL.move rfl rfl rfl ?_
  first | refine WL.move rfl rfl rfl ?_ | refine WL.skip _ rfl rfl rfl ?_
  refine WL.bin rfl rfl rfl rfl (int_ne_f rfl _ _ _) ?_
  first | refine WL.pick rfl rfl rfl rfl ?_
  first | refine WL.move rfl rfl rfl ?_
  first | refine WL.move rfl rfl rfl ?_ | refine WL.skip _ rfl rfl rfl ?_
  refine WL.bin rfl rfl rfl rfl (int_ne_f rfl _ _ _) ?_
  first | refine WL.pick rfl rfl rfl rfl ?_
  first | refine WL.move rfl rfl rfl ?_
  first | refine WL.move rfl rfl rfl ?_ | refine WL.skip _ rfl rfl rfl ?_
  first | refine WL.move rfl rfl rfl ?_ | refine WL.skip _ rfl rfl rfl ?_
  refine WL.bin rfl rfl rfl rfl (str_ne_f rfl _ _ _) ?_
  first | refine WL.pick rfl rfl rfl rfl ?_
  first | refine WL.move rfl rfl rfl ?_
  first | refine WL.move rfl rfl rfl ?_ | refine WL.skip _ rfl rfl rfl ?_
  refine WL.len rfl rfl rfl (len_s _ _ _) ?_
  refine WL.bin rfl rfl rfl rfl (int_ne_f (a := (N.length : Int)) (b := 71) (by rw [hNl]; rfl) _ _ _) ?_
  first | refine WL.pick rfl rfl rfl rfl ?_
  first | refine WL.move rfl rfl rfl ?_
  first | refine WL.move rfl rfl rfl ?_ | refine WL.skip _ rfl rfl rfl ?_
  refine WL.len rfl rfl rfl (len_s _ _ _) ?_
  refine WL.bin rfl rfl rfl rfl (int_ne_f (a := (g.length : Int)) (b := 30) (by rw [hgl]; rfl) _ _ _) ?_
  first | refine WL.pick rfl rfl rfl rfl ?_
  first | refine WL.move rfl rfl rfl ?_
  first | refine WL.move rfl rfl rfl ?_ | refine WL.skip _ rfl rfl rfl ?_
  refine WL.len rfl rfl rfl (len_s _ _ _) ?_
  refine WL.bin rfl rfl rfl rfl (int_ne_f (a := (h.length : Int)) (b := 30) (by rw [hhl]; rfl) _ _ _) ?_
  first | refine WL.pick rfl rfl rfl rfl ?_
  refine WL.done ?_
  refine EW.on ?_
  refine EW.cond_f rfl ?_
  refine EW.skip ?_
  refine EW.on ?_
  refine EW.seq ?_
  refine EW.seq ?_
  refine EW.region ?_
  first | refine WL.assign rfl rfl rfl ?_
  refine WL.done ?_
  refine EW.on ?_
  refine EW.block ?_
  refine EW.loop (kE a b N g h q1 q2) (fun k W => k ≤ 71 ∧ W = w6) (fun k => 71 - k) 0 [0, 2, 5, 7, 9, 13, 15, 17] rfl ⟨by omega, rfl⟩ ?_
  rintro k W ⟨hk, hz⟩
  rw [hz]
  clear hz W
  refine EW.seq ?_
  refine EW.seq ?_
  refine EW.region ?_
  first | refine WL.move rfl rfl rfl ?_
  first | refine WL.move rfl rfl rfl ?_
  refine WL.len rfl rfl rfl (len_s _ _ _) ?_
  refine WL.bin rfl rfl rfl rfl (int_lt_d _ _ _ _ _) ?_
  refine WL.done ?_
  refine EW.on ?_
  refine EW.cond_d rfl (fun h92 => ?_) (fun h92 => ?_)
  · refine EW.skip ?_
    refine EW.on ?_
    refine EW.seq ?_
    refine EW.block ?_
    refine EW.seq ?_
    obtain ⟨u, hu⟩ : ∃ u, N[k]? = some u := ⟨_, List.getElem?_eq_getElem (by omega)⟩
    have hbl : decide (((k % 6 : Nat) : Int) = 5) = decide ((u.toNat : Int) = 32) := by
      have h1 := hNat k u hu
      have h2 : u = 32 ↔ u.toNat = 32 := ⟨fun e => by subst e; rfl, fun e => UInt8.toNat_inj.1 e⟩
      rw [h2] at h1
      rw [decide_eq_decide]
      omega
    refine EW.region ?_
    first | refine WL.move rfl rfl rfl ?_
    refine WL.bin rfl rfl rfl rfl (int_rem (c := ((k % 6 : Nat) : Int)) (by decide) (by rw [Int.tmod_eq_emod_of_nonneg (by omega)]; rfl) _ _ _) ?_
    refine WL.bin rfl rfl rfl rfl (int_eq_d _ _ _ _ _) ?_
    first | refine WL.move rfl rfl rfl ?_
    first | refine WL.move rfl rfl rfl ?_
    refine WL.idx rfl rfl rfl rfl (idx_s N k u hu _) ?_
    refine WL.bin rfl rfl rfl rfl (u8_eq_d _ _ _ _ _) ?_
    refine WL.bin rfl rfl rfl rfl (bool_ne_f hbl _ _ _) ?_
    refine WL.done ?_
    refine EW.on ?_
    refine EW.cond_f rfl ?_
    refine EW.skip ?_
    refine pn_block ?_
    refine EW.on ?_
    refine EW.region ?_
    first | refine WL.move rfl rfl rfl ?_
    refine WL.bin rfl rfl rfl rfl (int_add (c := ((k + 1 : Nat) : Int)) (by rw [IntKind.wrap_i64]; omega) _ _ _) ?_
    first | refine WL.assign rfl rfl rfl ?_
    refine WL.done ?_
    exact EW.again (E := kE a b N g h q1 q2) (R := fun k W => k ≤ 71 ∧ W = w6) (m := fun k => 71 - k) (x := k) (k + 1) [0, 2, 5, 7, 9, 13, 15, 17] rfl ⟨by omega, rfl⟩ (by show 71 - (k + 1) < 71 - k; omega)
  · refine EW.exit ?_
    refine px_then ?_
    refine px_then ?_
    refine px_block ?_
    refine EW.on ?_
    refine EW.seq ?_
    refine EW.region ?_
    first | refine WL.move rfl rfl rfl ?_
    refine WL.call [sv N] enter14 rfl rfl rfl (digits_any N (by omega) w6) ?_
    rintro _ w7 ⟨rfl, l7⟩
    rw [hdN]
    refine ⟨_, rfl, ?_⟩
    have c17 := c16.on l7
    have c27 := c26.on l7
    have L7 := L6.on l7
    have B7 := bt B6 l7
    first | refine WL.assign rfl rfl rfl ?_
    refine WL.done ?_
    refine EW.on ?_
    refine EW.seq ?_
    refine EW.seq ?_
    refine EW.region ?_
    first | refine WL.move rfl rfl rfl ?_
    first | refine WL.move rfl rfl rfl ?_
    refine WL.bin rfl rfl rfl rfl (str_lt_d _ _ _ _ _) ?_
    refine WL.done ?_
    refine EW.on ?_
    refine EW.cond_b rfl (fun h107 => ?_) (fun h107 => ?_)
    · refine EW.region ?_
      first | refine WL.move rfl rfl rfl ?_
      first | refine WL.move rfl rfl rfl ?_
      first | refine WL.assign rfl rfl rfl ?_
      first | refine WL.assign rfl rfl rfl ?_
      refine WL.done ?_
      refine EW.on ?_
      refine EW.seq ?_
      refine EW.seq ?_
      refine EW.region ?_
      first | refine WL.move rfl rfl rfl ?_
      refine WL.len rfl rfl rfl (len_s _ _ _) ?_
      refine WL.bin rfl rfl rfl rfl (int_ne_f (a := (d.length : Int)) (b := 60) (by rw [hdl]; rfl) _ _ _) ?_
      first | refine WL.move rfl rfl rfl ?_
      first | refine WL.move rfl rfl rfl ?_ | refine WL.skip _ rfl rfl rfl ?_
      first | refine WL.move rfl rfl rfl ?_ | refine WL.skip _ rfl rfl rfl ?_
      first | refine WL.move rfl rfl rfl ?_ | refine WL.skip _ rfl rfl rfl ?_
      refine WL.bin rfl rfl rfl rfl (str_cat _ _ (by rw [hgl, hhl]; decide) _ _ _) ?_
      first | refine WL.bin rfl rfl rfl rfl (str_ne_f (hd1 h107) _ _ _) ?_ | refine WL.bin rfl rfl rfl rfl (str_ne_f (hd2 h107) _ _ _) ?_
      first | refine WL.pick rfl rfl rfl rfl ?_
      refine WL.done ?_
      refine EW.on ?_
      refine EW.cond_f rfl ?_
      refine EW.skip ?_
      refine EW.on ?_
      refine EW.seq ?_
      refine EW.region ?_
      first | refine WL.move rfl rfl rfl ?_
      refine WL.call [sv N] enter15 rfl rfl rfl (read_any N w7) ?_
      rintro _ w8 ⟨rfl, l8⟩
      rw [hrN, hrE]
      refine ⟨_, rfl, ?_⟩
      have c18 := c17.on l8
      have c28 := c27.on l8
      have L8 := L7.on l8
      have B8 := bt B7 l8
      first | refine WL.move rfl rfl rfl ?_
      first | refine WL.extract rfl rfl rfl (ext_2 _ _ _).1 ?_
      first | refine WL.extract rfl rfl rfl (ext_2 _ _ _).2 ?_
      first | refine WL.assign rfl rfl rfl ?_
      first | refine WL.assign rfl rfl rfl ?_
      refine WL.done ?_
      refine EW.on ?_
      refine EW.seq ?_
      refine EW.region ?_
      first | refine WL.move rfl rfl rfl ?_
      first | refine WL.move rfl rfl rfl ?_
      refine WL.load rfl rfl rfl (ld23 c28 hKb) ?_
      first | refine WL.move rfl rfl rfl ?_
      refine WL.load rfl rfl rfl (ld23 c18 hKa) ?_
      refine WL.call [sv N, sv b, kv kb, sv a, kv ka] enter13 rfl rfl rfl (match_any N b kb a ka hKb hKa w8 L8) ?_
      rintro _ w9 ⟨rfl, l9⟩
      rw [hmD, hmE]
      refine ⟨_, rfl, ?_⟩
      have c19 := c18.on l9
      have c29 := c28.on l9
      have L9 := L8.on l9
      have B9 := bt B8 l9
      first | refine WL.move rfl rfl rfl ?_
      first | refine WL.extract rfl rfl rfl (ext_2 _ _ _).1 ?_
      first | refine WL.extract rfl rfl rfl (ext_2 _ _ _).2 ?_
      first | refine WL.assign rfl rfl rfl ?_
      first | refine WL.assign rfl rfl rfl ?_
      refine WL.done ?_
      refine EW.on ?_
      refine EW.seq ?_
      refine EW.region ?_
      first | refine WL.move rfl rfl rfl ?_
      first | refine WL.bin rfl rfl rfl rfl (int_eq_t rfl _ _ _) ?_ | refine WL.bin rfl rfl rfl rfl (str_eq_t rfl _ _ _) ?_
      first | refine WL.move rfl rfl rfl ?_
      first | refine WL.move rfl rfl rfl ?_ | refine WL.skip _ rfl rfl rfl ?_
      first | refine WL.bin rfl rfl rfl rfl (int_eq_t rfl _ _ _) ?_ | refine WL.bin rfl rfl rfl rfl (str_eq_t rfl _ _ _) ?_
      first | refine WL.pick rfl rfl rfl rfl ?_
      first | refine WL.move rfl rfl rfl ?_
      first | refine WL.move rfl rfl rfl ?_ | refine WL.skip _ rfl rfl rfl ?_
      first | refine WL.move rfl rfl rfl ?_ | refine WL.skip _ rfl rfl rfl ?_
      first | refine WL.bin rfl rfl rfl rfl (int_eq_t rfl _ _ _) ?_ | refine WL.bin rfl rfl rfl rfl (str_eq_t rfl _ _ _) ?_
      first | refine WL.pick rfl rfl rfl rfl ?_
      first | refine WL.move rfl rfl rfl ?_
      first | refine WL.move rfl rfl rfl ?_ | refine WL.skip _ rfl rfl rfl ?_
      first | refine WL.pick rfl rfl rfl rfl ?_
      first | refine WL.assign rfl rfl rfl ?_
      refine WL.done ?_
      refine EW.on ?_
      refine EW.ret ?_
      exact EW.returns Tryd.results5 rfl ⟨rfl, bt (bt l1 l2) B9⟩
    · refine EW.skip ?_
      refine EW.on ?_
      refine EW.seq ?_
      refine EW.seq ?_
      refine EW.region ?_
      first | refine WL.move rfl rfl rfl ?_
      refine WL.len rfl rfl rfl (len_s _ _ _) ?_
      refine WL.bin rfl rfl rfl rfl (int_ne_f (a := (d.length : Int)) (b := 60) (by rw [hdl]; rfl) _ _ _) ?_
      first | refine WL.move rfl rfl rfl ?_
      first | refine WL.move rfl rfl rfl ?_ | refine WL.skip _ rfl rfl rfl ?_
      first | refine WL.move rfl rfl rfl ?_ | refine WL.skip _ rfl rfl rfl ?_
      first | refine WL.move rfl rfl rfl ?_ | refine WL.skip _ rfl rfl rfl ?_
      refine WL.bin rfl rfl rfl rfl (str_cat _ _ (by rw [hgl, hhl]; decide) _ _ _) ?_
      first | refine WL.bin rfl rfl rfl rfl (str_ne_f (hd1 h107) _ _ _) ?_ | refine WL.bin rfl rfl rfl rfl (str_ne_f (hd2 h107) _ _ _) ?_
      first | refine WL.pick rfl rfl rfl rfl ?_
      refine WL.done ?_
      refine EW.on ?_
      refine EW.cond_f rfl ?_
      refine EW.skip ?_
      refine EW.on ?_
      refine EW.seq ?_
      refine EW.region ?_
      first | refine WL.move rfl rfl rfl ?_
      refine WL.call [sv N] enter15 rfl rfl rfl (read_any N w7) ?_
      rintro _ w8 ⟨rfl, l8⟩
      rw [hrN, hrE]
      refine ⟨_, rfl, ?_⟩
      have c18 := c17.on l8
      have c28 := c27.on l8
      have L8 := L7.on l8
      have B8 := bt B7 l8
      first | refine WL.move rfl rfl rfl ?_
      first | refine WL.extract rfl rfl rfl (ext_2 _ _ _).1 ?_
      first | refine WL.extract rfl rfl rfl (ext_2 _ _ _).2 ?_
      first | refine WL.assign rfl rfl rfl ?_
      first | refine WL.assign rfl rfl rfl ?_
      refine WL.done ?_
      refine EW.on ?_
      refine EW.seq ?_
      refine EW.region ?_
      first | refine WL.move rfl rfl rfl ?_
      first | refine WL.move rfl rfl rfl ?_
      refine WL.load rfl rfl rfl (ld23 c28 hKb) ?_
      first | refine WL.move rfl rfl rfl ?_
      refine WL.load rfl rfl rfl (ld23 c18 hKa) ?_
      refine WL.call [sv N, sv b, kv kb, sv a, kv ka] enter13 rfl rfl rfl (match_any N b kb a ka hKb hKa w8 L8) ?_
      rintro _ w9 ⟨rfl, l9⟩
      rw [hmD, hmE]
      refine ⟨_, rfl, ?_⟩
      have c19 := c18.on l9
      have c29 := c28.on l9
      have L9 := L8.on l9
      have B9 := bt B8 l9
      first | refine WL.move rfl rfl rfl ?_
      first | refine WL.extract rfl rfl rfl (ext_2 _ _ _).1 ?_
      first | refine WL.extract rfl rfl rfl (ext_2 _ _ _).2 ?_
      first | refine WL.assign rfl rfl rfl ?_
      first | refine WL.assign rfl rfl rfl ?_
      refine WL.done ?_
      refine EW.on ?_
      refine EW.seq ?_
      refine EW.region ?_
      first | refine WL.move rfl rfl rfl ?_
      first | refine WL.bin rfl rfl rfl rfl (int_eq_t rfl _ _ _) ?_ | refine WL.bin rfl rfl rfl rfl (str_eq_t rfl _ _ _) ?_
      first | refine WL.move rfl rfl rfl ?_
      first | refine WL.move rfl rfl rfl ?_ | refine WL.skip _ rfl rfl rfl ?_
      first | refine WL.bin rfl rfl rfl rfl (int_eq_t rfl _ _ _) ?_ | refine WL.bin rfl rfl rfl rfl (str_eq_t rfl _ _ _) ?_
      first | refine WL.pick rfl rfl rfl rfl ?_
      first | refine WL.move rfl rfl rfl ?_
      first | refine WL.move rfl rfl rfl ?_ | refine WL.skip _ rfl rfl rfl ?_
      first | refine WL.move rfl rfl rfl ?_ | refine WL.skip _ rfl rfl rfl ?_
      first | refine WL.bin rfl rfl rfl rfl (int_eq_t rfl _ _ _) ?_ | refine WL.bin rfl rfl rfl rfl (str_eq_t rfl _ _ _) ?_
      first | refine WL.pick rfl rfl rfl rfl ?_
      first | refine WL.move rfl rfl rfl ?_
      first | refine WL.move rfl rfl rfl ?_ | refine WL.skip _ rfl rfl rfl ?_
      first | refine WL.pick rfl rfl rfl rfl ?_
      first | refine WL.assign rfl rfl rfl ?_
      refine WL.done ?_
      refine EW.on ?_
      refine EW.ret ?_
      exact EW.returns Tryd.results5 rfl ⟨rfl, bt (bt l1 l2) B9⟩
end Go.Proofs.YtnfikgnploockaaDoor
