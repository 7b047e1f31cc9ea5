import Derived.Test.YteghbkeaojbdgaaQj
import Derived.Test.YteghbkeaojbdgaaPk
set_option linter.unusedVariables false
set_option linter.unusedSimpArgs false
namespace Go.Proofs.Yteghbkeaojbdgaa
open Go.RowKit

theorem zeros_of {c : List UInt8} (h : orB c = 0) : c = List.replicate c.length 0 := List.eq_replicate_iff.2 ⟨rfl, (orB_zero c).1 h⟩
theorem rk_not {c : List UInt8} {p : Nat} (h : Rk c p) : ¬ orB (c.drop p) = 0 := by
  intro ho
  obtain ⟨g1, _, _⟩ := rec_enc h.1
  have hz := (orB_zero _).1 ho (UInt8.ofNat (recD c p).1.k.length) (by rw [g1]; simp [encD])
  have h1 := h.2.2.2.1
  have h2 := h.2.2.2.2.1
  have := congrArg UInt8.toNat hz
  simp at this
  omega
theorem pz_fit {c : List UInt8} {ds : List Rc} {p : Nat} (h : Pz c ds p) (hl : c.length = 1008) : fitN 1008 ds = ds.length := by
  obtain ⟨_, h2, h3, h4⟩ := pz_size h
  have := fit_drop ds 1008 ds.length (fun i hi => by
    rw [left_enc]
    have e : (ds.flatMap encD).length = ((ds.take i).flatMap encD).length + ((ds.drop i).flatMap encD).length := by
      rw [← List.length_append, ← List.flatMap_append, List.take_append_drop]
    omega) (Nat.le_refl _)
  rw [List.drop_length] at this
  exact this
theorem pz_encP {c : List UInt8} {ds : List Rc} {p : Nat} (h : Pz c ds p) (hl : c.length = 1008) (ho : orB (c.drop p) = 0) : encP ds = c := by
  obtain ⟨_, h2, h3, h4⟩ := pz_size h
  unfold encP
  rw [left_enc, h4]
  have e := zeros_of ho
  rw [List.length_drop, hl] at e
  rw [show ((1008 : Int) - (p : Int)).toNat = 1008 - p by omega, ← e]
  exact h3.symm
theorem decode_any (n : Int) (v : Value) (c : List UInt8) (w : World) (hb : Has w v c) (hn : n < 9223372036854775808) : Calls Try.prog 8 #[.int .i64 n, v] w fun e w' => ∃ (vl : Value) (code : Int), e = .returned (.tuple #[vl, .int .i64 code]) ∧ Below w.heap.size w w' ∧ ((code = 0 ∧ c.length = 1008 ∧ ∃ rs p, Ls w' vl rs ∧ n = (rs.length : Int) ∧ Pz c (rs.map RV.d) p ∧ orB (c.drop p) = 0) ∨ (vl = .slice none 0 0 ∧ ¬ code = 0)) := by
  rcases Int.lt_or_le n 0 with h0 | h0
  · exact (decode_neg n v w h0).mono fun e w' h => ⟨_, _, h.1, by rw [h.2]; exact Below.refl _ _, .inr ⟨rfl, by decide⟩⟩
  · rcases Nat.lt_trichotomy c.length 1008 with h1 | h1 | h1
    · exact (decode_short n v c w hb (by omega) (by omega)).mono fun e w' h => ⟨_, _, h.1, by rw [h.2]; exact Below.refl _ _, .inr ⟨rfl, by decide⟩⟩
    · obtain ⟨m, rfl⟩ := Int.eq_ofNat_of_zero_le h0
      refine (decode_1008 m v c w hb (by omega) h1).mono ?_
      rintro e w' ⟨vl, code, g1, g2, g3⟩
      refine ⟨vl, code, g1, g2, ?_⟩
      rcases g3 with ⟨k0, rs, p, k1, k2, k3, k4, _⟩ | ⟨k1, k2, _⟩
      · exact .inl ⟨k0, h1, rs, p, k1, by rw [k2], k3, k4⟩
      · exact .inr ⟨k1, k2⟩
    · exact (decode_long n v c w hb (by omega) (by omega)).mono fun e w' h => ⟨_, _, h.1, by rw [h.2]; exact Below.refl _ _, .inr ⟨rfl, by decide⟩⟩
theorem decode_more (m : Nat) (v : Value) (c : List UInt8) (w : World) (hb : Has w v c) (hl : c.length = 1008) {ds : List Rc} {p : Nat} (hp : Pz c ds p) (hm : ds.length = m) (ho : orB (c.drop p) = 0) : Calls Try.prog 8 #[.int .i64 ((m + 1 : Nat) : Int), v] w fun e w' => ∃ (vl : Value) (code : Int), e = .returned (.tuple #[vl, .int .i64 code]) ∧ Below w.heap.size w w' ∧ ¬ code = 0 := by
  have hs := pz_size hp
  refine (decode_1008 (m + 1) v c w hb (by omega) hl).mono ?_
  rintro e w' ⟨vl, code, g1, g2, g3⟩
  refine ⟨vl, code, g1, g2, ?_⟩
  rcases g3 with ⟨k0, rs, p', k1, k2, k3, k4, _⟩ | ⟨k1, k2, _⟩
  · exact absurd ho (rk_not (pz_next hp k3 (by rw [List.length_map]; omega)).1)
  · exact k2
theorem decode_less (m : Nat) (v : Value) (c : List UInt8) (w : World) (hb : Has w v c) (hl : c.length = 1008) {ds : List Rc} {p : Nat} (hp : Pz c ds p) (hm : ds.length = m) (h0 : 0 < m) : Calls Try.prog 8 #[.int .i64 ((m - 1 : Nat) : Int), v] w fun e w' => ∃ vl : Value, e = .returned (.tuple #[vl, .int .i64 104]) ∧ Below w.heap.size w w' := by
  have hs := pz_size hp
  obtain ⟨es, p1, hes, hel, hrk⟩ : ∃ es p1, Pz c es p1 ∧ es.length = m - 1 ∧ Rk c p1 := by
    cases hp with
    | nil => simp at hm; omega
    | snoc es p1 h1 h2 h3 => exact ⟨es, p1, h1, by simp at hm; omega, h2⟩
  refine (decode_1008 (m - 1) v c w hb (by omega) hl).mono ?_
  rintro e w' ⟨vl, code, g1, g2, g3⟩
  refine ⟨vl, ?_, g2⟩
  rcases g3 with ⟨k0, rs, p', k1, k2, k3, k4, _⟩ | ⟨k1, k2, ⟨k3, _⟩ | k3⟩
  · obtain ⟨_, e2⟩ := pz_det hes k3 (by rw [List.length_map]; omega)
    rw [← e2] at k4
    exact absurd k4 (rk_not hrk)
  · rw [g1, k3]
  · exact absurd hel (k3 es p1 hes)
set_option maxRecDepth 100000 in
set_option maxHeartbeats 1000000 in
theorem oneForm_any (n : Int) (v vx : Value) (c : List UInt8) (w : World) (hb : Has w v c) (hn : n < 9223372036854775808) : Calls Try.prog 3 #[.int .i64 n, v, vx] w fun e w' => e = .returned (.bool true) ∧ Below w.heap.size w w' := by
  refine calls_of_args [.int .i64 n, v, vx] Try.func3 rfl 97 Try.ntmps3 (by show 3 ≤ 97; decide) ?_
  refine EW.seq ?_
  refine EW.region ?_
  first | refine WL.assign rfl rfl rfl ?_
  refine WL.done ?_
  refine EW.on ?_
  refine EW.seq ?_
  refine EW.region ?_
  refine WL.call [.slice none 0 0] enter7 rfl rfl rfl (encode_any (.slice none 0 0) [] _ (Ls.nil _) ⟨fun d hd => (by cases hd), fun i a b ha => (by cases ha)⟩ (by decide) rfl) ?_
  rintro _ w1 ⟨v1, rfl, _, be1⟩
  refine ⟨_, rfl, ?_⟩
  first | refine WL.move rfl rfl rfl ?_
  first | refine WL.extract rfl rfl rfl (ext_2 _ _ _).1 ?_
  first | refine WL.extract rfl rfl rfl (ext_2 _ _ _).2 ?_
  first | refine WL.assign rfl rfl rfl ?_
  first | refine WL.assign rfl rfl rfl ?_
  refine WL.done ?_
  refine EW.on ?_
  refine EW.seq ?_
  refine EW.seq ?_
  refine EW.region ?_
  first | refine WL.move rfl rfl rfl ?_
  first | refine WL.bin rfl rfl rfl rfl (int_ne_f rfl _ _ _) ?_ | refine WL.bin rfl rfl rfl rfl (int_ne_t ‹_› _ _ _) ?_ | refine WL.bin rfl rfl rfl rfl (int_ne_f ‹_› _ _ _) ?_ | refine WL.bin rfl rfl rfl rfl (int_ne_t (by decide) _ _ _) ?_ | refine WL.bin rfl rfl rfl rfl (int_ne_d _ _ _ _ _) ?_
  refine WL.done ?_
  refine EW.on ?_
  refine EW.cond_f rfl ?_
  refine EW.skip ?_
  refine EW.on ?_
  refine EW.seq ?_
  refine EW.region ?_
  first | refine WL.move rfl rfl rfl ?_
  first | refine WL.move rfl rfl rfl ?_
  refine WL.call [.int .i64 n, v] enter8 rfl rfl rfl (decode_any n v c _ (hb.below be1) hn) ?_
  rintro _ w2 ⟨vl, code, rfl, be2, hcs⟩
  have E2 := be1.trans (be2.mono be1.size)
  refine ⟨_, rfl, ?_⟩
  first | refine WL.move rfl rfl rfl ?_
  first | refine WL.extract rfl rfl rfl (ext_2 _ _ _).1 ?_
  first | refine WL.extract rfl rfl rfl (ext_2 _ _ _).2 ?_
  first | refine WL.assign rfl rfl rfl ?_
  first | refine WL.assign rfl rfl rfl ?_
  refine WL.done ?_
  refine EW.on ?_
  refine EW.seq ?_
  refine EW.seq ?_
  rcases hcs with ⟨rfl, hlc, rs, p, hL, rfl, hpz, ho⟩ | ⟨rfl, hcode⟩
  · refine EW.region ?_
    first | refine WL.move rfl rfl rfl ?_
    first | refine WL.bin rfl rfl rfl rfl (int_ne_f rfl _ _ _) ?_ | refine WL.skip _ rfl rfl rfl ?_
    refine WL.done ?_
    refine EW.on ?_
    refine EW.cond_f rfl ?_
    refine EW.skip ?_
    refine EW.on ?_
    refine EW.seq ?_
    have hps := pz_size hpz
    rw [List.length_map] at hps
    have hfit : fitN 1008 (rs.map RV.d) = rs.length := by rw [pz_fit hpz hlc, List.length_map]
    have hen := pz_encP hpz hlc ho
    have a55 : IntKind.i64.wrap ((rs.length : Int) + 1) = ((rs.length + 1 : Nat) : Int) := by rw [IntKind.wrap_i64]; omega
    refine EW.region ?_
    first | refine WL.move rfl rfl rfl ?_
    refine WL.call [vl] enter7 rfl rfl rfl (encode_any vl rs _ hL (pz_srt hpz) (by omega) hfit) ?_
    rintro _ w3 ⟨v3, rfl, g3, be3⟩
    rw [hen] at g3
    have E3 := E2.trans (be3.mono E2.size)
    refine ⟨_, rfl, ?_⟩
    first | refine WL.move rfl rfl rfl ?_
    first | refine WL.extract rfl rfl rfl (ext_2 _ _ _).1 ?_
    first | refine WL.extract rfl rfl rfl (ext_2 _ _ _).2 ?_
    first | refine WL.assign rfl rfl rfl ?_
    first | refine WL.assign rfl rfl rfl ?_
    refine WL.done ?_
    refine EW.on ?_
    refine EW.seq ?_
    refine EW.seq ?_
    refine EW.region ?_
    first | refine WL.move rfl rfl rfl ?_
    first | refine WL.bin rfl rfl rfl rfl (int_ne_f rfl _ _ _) ?_ | refine WL.bin rfl rfl rfl rfl (int_ne_t ‹_› _ _ _) ?_ | refine WL.bin rfl rfl rfl rfl (int_ne_f ‹_› _ _ _) ?_ | refine WL.bin rfl rfl rfl rfl (int_ne_t (by decide) _ _ _) ?_ | refine WL.bin rfl rfl rfl rfl (int_ne_d _ _ _ _ _) ?_
    first | refine WL.move rfl rfl rfl ?_
    first | refine WL.move rfl rfl rfl ?_ | refine WL.skip _ rfl rfl rfl ?_
    first | refine WL.move rfl rfl rfl ?_ | refine WL.skip _ rfl rfl rfl ?_
    refine WL.call [v3, v] enter9 rfl rfl rfl (eq_any v3 v c c _ g3 (hb.below E3)) ?_
    rintro _ w4 ⟨rfl, hz4⟩
    rw [hz4, decide_eq_true rfl]
    refine ⟨_, rfl, ?_⟩
    first | refine WL.un rfl rfl rfl (not_t _ _) ?_ | refine WL.skip _ rfl rfl rfl ?_
    first | refine WL.pick rfl rfl rfl rfl ?_
    first | refine WL.move rfl rfl rfl ?_
    first | refine WL.move rfl rfl rfl ?_ | refine WL.skip _ rfl rfl rfl ?_
    refine WL.len rfl rfl rfl ((hL.below be3).len _ _) ?_
    first | refine WL.move rfl rfl rfl ?_ | refine WL.skip _ rfl rfl rfl ?_
    first | refine WL.bin rfl rfl rfl rfl (int_ne_f rfl _ _ _) ?_ | refine WL.skip _ rfl rfl rfl ?_
    first | refine WL.pick rfl rfl rfl rfl ?_
    refine WL.done ?_
    refine EW.on ?_
    refine EW.cond_f rfl ?_
    refine EW.skip ?_
    refine EW.on ?_
    refine EW.seq ?_
    refine EW.region ?_
    first | refine WL.move rfl rfl rfl ?_
    first | refine WL.bin rfl rfl rfl rfl (int_add a55 _ _ _) ?_ | refine WL.skip _ rfl rfl rfl ?_
    first | refine WL.move rfl rfl rfl ?_
    refine WL.call [.int .i64 ((rs.length + 1 : Nat) : Int), v] enter8 rfl rfl rfl (decode_more rs.length v c _ (hb.below E3) hlc hpz (by rw [List.length_map]) ho) ?_
    rintro _ w5 ⟨vh, ch, rfl, be5, hch⟩
    have E5 := E3.trans (be5.mono E3.size)
    refine ⟨_, rfl, ?_⟩
    first | refine WL.move rfl rfl rfl ?_
    first | refine WL.extract rfl rfl rfl (ext_2 _ _ _).1 ?_
    first | refine WL.extract rfl rfl rfl (ext_2 _ _ _).2 ?_
    first | refine WL.assign rfl rfl rfl ?_
    first | refine WL.assign rfl rfl rfl ?_
    refine WL.done ?_
    refine EW.on ?_
    refine EW.seq ?_
    rcases Nat.eq_zero_or_pos rs.length with hm | hm
    · have s62 : IntKind.i64.wrap ((rs.length : Int) - 1) = -1 := by rw [IntKind.wrap_i64]; omega
      have zq : (rs.length : Int) = 0 := by omega
      have zg : ¬ (0 : Int) < (rs.length : Int) := by omega
      refine EW.region ?_
      first | refine WL.move rfl rfl rfl ?_
      first | refine WL.bin rfl rfl rfl rfl (int_sub s62 _ _ _) ?_ | refine WL.skip _ rfl rfl rfl ?_
      first | refine WL.move rfl rfl rfl ?_
      refine WL.call [.int .i64 (-1), v] enter8 rfl rfl rfl (decode_neg (-1) v _ (by decide)) ?_
      rintro _ w6 ⟨rfl, hz6⟩
      rw [hz6]
      refine ⟨_, rfl, ?_⟩
      first | refine WL.move rfl rfl rfl ?_
      first | refine WL.extract rfl rfl rfl (ext_2 _ _ _).1 ?_
      first | refine WL.extract rfl rfl rfl (ext_2 _ _ _).2 ?_
      first | refine WL.assign rfl rfl rfl ?_
      first | refine WL.assign rfl rfl rfl ?_
      refine WL.done ?_
      refine EW.on ?_
      refine EW.seq ?_
      refine EW.region ?_
      first | refine WL.move rfl rfl rfl ?_
      first | refine WL.bin rfl rfl rfl rfl (int_ne_t hch _ _ _) ?_ | refine WL.skip _ rfl rfl rfl ?_
      first | refine WL.move rfl rfl rfl ?_
      first | refine WL.move rfl rfl rfl ?_ | refine WL.skip _ rfl rfl rfl ?_
      first | refine WL.bin rfl rfl rfl rfl (int_eq_t zq _ _ _) ?_ | refine WL.skip _ rfl rfl rfl ?_
      first | refine WL.move rfl rfl rfl ?_ | refine WL.skip _ rfl rfl rfl ?_
      first | refine WL.move rfl rfl rfl ?_ | refine WL.skip _ rfl rfl rfl ?_
      first | refine WL.bin rfl rfl rfl rfl (int_eq_t rfl _ _ _) ?_ | refine WL.skip _ rfl rfl rfl ?_
      first | refine WL.pick rfl rfl rfl rfl ?_ | refine WL.skip _ rfl rfl rfl ?_
      first | refine WL.move rfl rfl rfl ?_ | refine WL.skip _ rfl rfl rfl ?_
      first | refine WL.move rfl rfl rfl ?_ | refine WL.skip _ rfl rfl rfl ?_
      refine WL.skip _ rfl rfl rfl ?_
      first | refine WL.move rfl rfl rfl ?_ | refine WL.skip _ rfl rfl rfl ?_
      first | refine WL.move rfl rfl rfl ?_ | refine WL.skip _ rfl rfl rfl ?_
      first | refine WL.move rfl rfl rfl ?_ | refine WL.skip _ rfl rfl rfl ?_
      refine WL.skip _ rfl rfl rfl ?_
      refine WL.skip _ rfl rfl rfl ?_
      refine WL.skip _ rfl rfl rfl ?_
      refine WL.skip _ rfl rfl rfl ?_
      first | refine WL.pick rfl rfl rfl rfl ?_ | refine WL.skip _ rfl rfl rfl ?_
      first | refine WL.pick rfl rfl rfl rfl ?_ | refine WL.skip _ rfl rfl rfl ?_
      first | refine WL.pick rfl rfl rfl rfl ?_
      first | refine WL.move rfl rfl rfl ?_
      first | refine WL.move rfl rfl rfl ?_ | refine WL.skip _ rfl rfl rfl ?_
      first | refine WL.bin rfl rfl rfl rfl (int_gt_f zg _ _ _) ?_ | refine WL.skip _ rfl rfl rfl ?_
      first | refine WL.move rfl rfl rfl ?_ | refine WL.skip _ rfl rfl rfl ?_
      first | refine WL.move rfl rfl rfl ?_ | refine WL.skip _ rfl rfl rfl ?_
      first | refine WL.bin rfl rfl rfl rfl (int_eq_t rfl _ _ _) ?_ | refine WL.skip _ rfl rfl rfl ?_
      first | refine WL.pick rfl rfl rfl rfl ?_ | refine WL.skip _ rfl rfl rfl ?_
      first | refine WL.pick rfl rfl rfl rfl ?_
      first | refine WL.assign rfl rfl rfl ?_
      refine WL.done ?_
      refine EW.on ?_
      refine EW.ret ?_
      exact EW.returns Try.results3 rfl ⟨rfl, E5⟩
    · have s62 : IntKind.i64.wrap ((rs.length : Int) - 1) = ((rs.length - 1 : Nat) : Int) := by rw [IntKind.wrap_i64]; omega
      have zq : ¬ (rs.length : Int) = 0 := by omega
      have zg : (0 : Int) < (rs.length : Int) := by omega
      refine EW.region ?_
      first | refine WL.move rfl rfl rfl ?_
      first | refine WL.bin rfl rfl rfl rfl (int_sub s62 _ _ _) ?_ | refine WL.skip _ rfl rfl rfl ?_
      first | refine WL.move rfl rfl rfl ?_
      refine WL.call [.int .i64 ((rs.length - 1 : Nat) : Int), v] enter8 rfl rfl rfl (decode_less rs.length v c _ (hb.below E5) hlc hpz (by rw [List.length_map]) hm) ?_
      rintro _ w6 ⟨vi, rfl, be6⟩
      have E6 := E5.trans (be6.mono E5.size)
      refine ⟨_, rfl, ?_⟩
      first | refine WL.move rfl rfl rfl ?_
      first | refine WL.extract rfl rfl rfl (ext_2 _ _ _).1 ?_
      first | refine WL.extract rfl rfl rfl (ext_2 _ _ _).2 ?_
      first | refine WL.assign rfl rfl rfl ?_
      first | refine WL.assign rfl rfl rfl ?_
      refine WL.done ?_
      refine EW.on ?_
      refine EW.seq ?_
      refine EW.region ?_
      first | refine WL.move rfl rfl rfl ?_
      first | refine WL.bin rfl rfl rfl rfl (int_ne_t hch _ _ _) ?_ | refine WL.skip _ rfl rfl rfl ?_
      first | refine WL.move rfl rfl rfl ?_
      first | refine WL.move rfl rfl rfl ?_ | refine WL.skip _ rfl rfl rfl ?_
      first | refine WL.bin rfl rfl rfl rfl (int_eq_f zq _ _ _) ?_ | refine WL.skip _ rfl rfl rfl ?_
      first | refine WL.move rfl rfl rfl ?_ | refine WL.skip _ rfl rfl rfl ?_
      first | refine WL.move rfl rfl rfl ?_ | refine WL.skip _ rfl rfl rfl ?_
      first | refine WL.bin rfl rfl rfl rfl (int_eq_t rfl _ _ _) ?_ | refine WL.skip _ rfl rfl rfl ?_
      first | refine WL.pick rfl rfl rfl rfl ?_ | refine WL.skip _ rfl rfl rfl ?_
      first | refine WL.move rfl rfl rfl ?_ | refine WL.skip _ rfl rfl rfl ?_
      first | refine WL.move rfl rfl rfl ?_ | refine WL.skip _ rfl rfl rfl ?_
      refine WL.skip _ rfl rfl rfl ?_
      first | refine WL.move rfl rfl rfl ?_ | refine WL.skip _ rfl rfl rfl ?_
      first | refine WL.move rfl rfl rfl ?_ | refine WL.skip _ rfl rfl rfl ?_
      first | refine WL.move rfl rfl rfl ?_ | refine WL.skip _ rfl rfl rfl ?_
      refine WL.skip _ rfl rfl rfl ?_
      refine WL.skip _ rfl rfl rfl ?_
      refine WL.skip _ rfl rfl rfl ?_
      refine WL.skip _ rfl rfl rfl ?_
      first | refine WL.pick rfl rfl rfl rfl ?_ | refine WL.skip _ rfl rfl rfl ?_
      first | refine WL.pick rfl rfl rfl rfl ?_ | refine WL.skip _ rfl rfl rfl ?_
      first | refine WL.pick rfl rfl rfl rfl ?_
      first | refine WL.move rfl rfl rfl ?_
      first | refine WL.move rfl rfl rfl ?_ | refine WL.skip _ rfl rfl rfl ?_
      first | refine WL.bin rfl rfl rfl rfl (int_gt_t zg _ _ _) ?_ | refine WL.skip _ rfl rfl rfl ?_
      first | refine WL.move rfl rfl rfl ?_ | refine WL.skip _ rfl rfl rfl ?_
      first | refine WL.move rfl rfl rfl ?_ | refine WL.skip _ rfl rfl rfl ?_
      first | refine WL.bin rfl rfl rfl rfl (int_eq_t rfl _ _ _) ?_ | refine WL.skip _ rfl rfl rfl ?_
      first | refine WL.pick rfl rfl rfl rfl ?_ | refine WL.skip _ rfl rfl rfl ?_
      first | refine WL.pick rfl rfl rfl rfl ?_
      first | refine WL.assign rfl rfl rfl ?_
      refine WL.done ?_
      refine EW.on ?_
      refine EW.ret ?_
      exact EW.returns Try.results3 rfl ⟨rfl, E6⟩
  · refine EW.region ?_
    first | refine WL.move rfl rfl rfl ?_
    first | refine WL.bin rfl rfl rfl rfl (int_ne_t hcode _ _ _) ?_ | refine WL.skip _ rfl rfl rfl ?_
    refine WL.done ?_
    refine EW.on ?_
    refine EW.cond_t rfl ?_
    refine EW.seq ?_
    refine EW.region ?_
    first | refine WL.move rfl rfl rfl ?_
    refine WL.len rfl rfl rfl ((Ls.nil w2).len _ _) ?_
    first | refine WL.bin rfl rfl rfl rfl (int_eq_t rfl _ _ _) ?_ | refine WL.skip _ rfl rfl rfl ?_
    first | refine WL.assign rfl rfl rfl ?_
    refine WL.done ?_
    refine EW.on ?_
    refine EW.ret ?_
    refine pr_then ?_
    exact EW.returns Try.results3 rfl ⟨rfl, E2⟩
end Go.Proofs.Yteghbkeaojbdgaa
