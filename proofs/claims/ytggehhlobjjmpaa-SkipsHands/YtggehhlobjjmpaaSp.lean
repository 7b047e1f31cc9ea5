import Derived.Test.YtggehhlobjjmpaaSn
set_option linter.unusedVariables false
set_option linter.unusedSimpArgs false
namespace Go.Proofs.Ytggehhlobjjmpaa
open Go.RowKit

def LH (Ks : List (List UInt8)) : List Sk := (List.range Ks.length).map fun i => ⟨0, i, Ks.getD i []⟩
theorem LH_lt (Ks : List (List UInt8)) : (LH Ks).Pairwise Lt := by
  unfold LH
  rw [List.pairwise_map]
  exact List.pairwise_lt_range.imp fun h => .inr ⟨rfl, h⟩
theorem LH_perm (Ks : List (List UInt8)) : ((adE 0 0 0 Ks).map Me.sk).Perm (LH Ks) := by
  unfold LH
  rw [adE_range, List.map_map]
  refine List.Perm.of_eq (List.map_congr_left fun i _ => ?_)
  show (⟨0, 0 + i, Ks.getD i []⟩ : Sk) = _
  rw [Nat.zero_add]
theorem LH_len (Ks : List (List UInt8)) : (LH Ks).length = Ks.length := by simp [LH]
def BL (m x : Nat) (l : List Sk) : List Sk := (List.range x).map (fun i => ⟨m, i, z32⟩) ++ l.drop x
theorem BL_len (m x : Nat) (l : List Sk) (h : x ≤ l.length) : (BL m x l).length = l.length := by simp [BL]; omega
theorem BL_set (m x : Nat) (l : List Sk) (h : x < l.length) : (BL m x l).set x ⟨m, x, z32⟩ = BL m (x + 1) l := by
  unfold BL
  rw [List.set_append_right _ _ (by simp), List.length_map, List.length_range, Nat.sub_self, List.drop_eq_getElem_cons h, List.set_cons_zero, List.range_succ, List.map_append, List.append_assoc]
  rfl
theorem BL_at (m x : Nat) (l : List Sk) (i : Nat) (h : i < x) : (BL m x l)[i]? = some ⟨m, i, z32⟩ := by
  unfold BL
  rw [List.getElem?_append_left (by simpa using h)]
  simp [h]
theorem adn_h {m : Nat} (h : m ≤ 64) : adN [] 64 0 0 m = 0 := by
  unfold adN
  rw [if_neg (by omega), taken_f (fun i _ => rfl), if_neg (by decide), if_neg (by simp; omega)]
theorem delH_len (Ks : List (List UInt8)) (h : 0 < Ks.length) : (delE (adE 0 0 0 Ks) 0 0).length = Ks.length - 1 := by
  unfold delE
  rw [adE_range, List.filter_map, List.length_map]
  obtain ⟨k, hk⟩ : ∃ k, Ks.length = k + 1 := ⟨Ks.length - 1, by omega⟩
  rw [hk, List.range_succ_eq_map, List.filter_cons_of_neg (by simp), List.filter_eq_self.2]
  · simp
  · intro a ha
    obtain ⟨b, _, rfl⟩ := List.mem_map.1 ha
    simp
theorem adn_9 {Ks : List (List UInt8)} (h : 0 < Ks.length) (h2 : Ks.length ≤ 64) : adN (delE (adE 0 0 0 Ks) 0 0) 64 9 9 1 = 0 := by
  unfold adN
  rw [if_neg (by decide), taken_f (fun i _ => lk_of_none fun m hm hh => by
    have hm2 := (List.mem_filter.1 hm).1
    rw [adE_range] at hm2
    obtain ⟨i, _, rfl⟩ := List.mem_map.1 hm2
    exact absurd hh.1 (show ¬ (9 : Nat) = 0 by decide)), if_neg (by decide), if_neg (by rw [delH_len Ks h]; omega)]
structure HS (w : World) (p r p2 r2 : Nat) (va av a0 : Value) (Ks : List (List UInt8)) (E2 : List Me) (c2 : Nat) (W : World) : Prop where
  tb : Tb W p r 64 (adE 0 0 0 Ks) Ks.length
  tc : Tb W p2 r2 64 E2 c2
  ko : Ko W va Ks
  a : So W av (LH Ks)
  a0 : So W a0 (LH Ks)
  be : Below w.heap.size w W
theorem HS.on {w : World} {p r p2 r2 : Nat} {va av a0 : Value} {Ks : List (List UInt8)} {E2 : List Me} {c2 : Nat} {W W' : World} (h : HS w p r p2 r2 va av a0 Ks E2 c2 W) (hb : Below W.heap.size W W') : HS w p r p2 r2 va av a0 Ks E2 c2 W' := ⟨h.tb.on hb, h.tc.on hb, h.ko.on hb, h.a.on hb, h.a0.on hb, bt h.be hb⟩
theorem HS.fx {w : World} {p r p2 r2 g : Nat} {va av a0 : Value} {Ks : List (List UInt8)} {E2 : List Me} {c2 : Nat} {W W' : World} (h : HS w p r p2 r2 va av a0 Ks E2 c2 W) (f : Fx (fun k => k = g) W W') (h1 : p ≠ g ∧ r ≠ g ∧ p2 ≠ g ∧ r2 ≠ g) (h2 : ∀ b, va.ownBlock = some b → b ≠ g) (h3 : ∀ b, av.ownBlock = some b → b ≠ g) (h4 : ∀ b, a0.ownBlock = some b → b ≠ g) (hg : w.heap.size ≤ g) : HS w p r p2 r2 va av a0 Ks E2 c2 W' := ⟨h.tb.fx f h1.1 h1.2.1, h.tc.fx f h1.2.2.1 h1.2.2.2, h.ko.fx f (fun b hb e => h2 b hb e), h.a.fx f (fun b hb e => h3 b hb e), h.a0.fx f (fun b hb e => h4 b hb e), bfx h.be f hg⟩
def pE0 (p mk : Nat) (d : Value) : List (Nat × Value) := [(0, d), (1, u32v mk), (5, .pointer (some ⟨p, 0, none⟩))]
def pE1 (p p2 mk : Nat) (va av a0 bv : Value) (x : Nat) : List (Nat × Value) := [(0, va), (1, u32v mk), (5, .pointer (some ⟨p, 0, none⟩)), (7, .pointer (some ⟨p2, 0, none⟩)), (8, av), (9, bv), (10, a0), (11, .int .i64 (x : Int))]
def PR1 (w : World) (p r p2 r2 mk : Nat) (va av a0 bv : Value) (Ks : List (List UInt8)) (x : Nat) (W : World) : Prop := x ≤ Ks.length ∧ HS w p r p2 r2 va av a0 Ks (adE 0 0 0 Ks) Ks.length W ∧ So W bv (BL mk x (LH Ks))
def pE2 (mk : Nat) (bv : Value) (x : Nat) : List (Nat × Value) := [(1, u32v mk), (9, bv), (17, .int .i64 (x : Int))]
def PR2 (w : World) (n mk : Nat) (bv : Value) (L : List Sk) (x : Nat) (W : World) : Prop := x ≤ n ∧ Sl W bv L ∧ Below w.heap.size w W
set_option maxRecDepth 100000 in
set_option maxHeartbeats 20000000 in
theorem hands_any (w : World) (v : Value) (mk : Nat) (hmk : mk < 4294967296) (Ks0 : List (List UInt8)) (hk : Kl w v Ks0) : Calls Try.prog 4 #[v, u32v mk] w fun e w' => e = .returned (.bool true) ∧ Below w.heap.size w w' := by
  refine calls_of_args [v, u32v mk] Try.func4 rfl 157 Try.ntmps4 (by show 2 ≤ 157; decide) ?_
  refine EW.seq ?_
  refine EW.region ?_
  first | refine WL.assign rfl rfl rfl ?_
  refine WL.done ?_
  refine EW.on ?_
  refine EW.seq ?_
  refine EW.region ?_
  refine WL.call [.int .i64 64] enter6 rfl rfl rfl (new_ok 64 (by decide) _) ?_
  rintro x1 w1 ⟨p, r, rfl, tb1, hp, hr, l1⟩
  refine ⟨_, rfl, ?_⟩
  first | refine WL.move rfl rfl rfl ?_
  first | refine WL.extract rfl rfl rfl (ext_2 _ _ _).1 ?_
  first | refine WL.extract rfl rfl rfl (ext_2 _ _ _).2 ?_
  first | refine WL.assign rfl rfl rfl ?_
  first | refine WL.assign rfl rfl rfl ?_
  refine WL.done ?_
  refine EW.on ?_
  refine EW.seq ?_
  refine EW.seq ?_
  refine EW.region ?_
  first | refine WL.move rfl rfl rfl ?_
  first | refine WL.bin rfl rfl rfl rfl (int_ne_f rfl _ _ _) ?_ | refine WL.bin rfl rfl rfl rfl (int_ne_t ‹_› _ _ _) ?_ | refine WL.bin rfl rfl rfl rfl (int_ne_f ‹_› _ _ _) ?_ | refine WL.bin rfl rfl rfl rfl (int_ne_t (by decide) _ _ _) ?_ | refine WL.bin rfl rfl rfl rfl (int_ne_d _ _ _ _ _) ?_
  first | refine WL.move rfl rfl rfl ?_
  first | refine WL.move rfl rfl rfl ?_ | refine WL.skip _ rfl rfl rfl ?_
  refine WL.bin rfl rfl rfl rfl (neP p _ _ _) ?_
  first | refine WL.pick rfl rfl rfl rfl ?_
  refine WL.done ?_
  refine EW.on ?_
  refine EW.cond_f rfl ?_
  refine EW.skip ?_
  refine EW.on ?_
  refine EW.join (pE0 p mk) (OR0 w w1) ?_ ?_
  · refine EW.seq ?_
    have tb1 : Tb w1 p r 64 [] 0 := tb1
    refine EW.region ?_
    first | refine WL.move rfl rfl rfl ?_
    refine WL.len rfl rfl rfl (hk.len _ _) ?_
    refine WL.bin rfl rfl rfl rfl (int_gt_d _ _ _ _ _) ?_
    refine WL.done ?_
    refine EW.on ?_
    refine EW.cond_d rfl (fun h30 => ?_) (fun h30 => ?_)
    · obtain ⟨v5, hcut, hk5, _⟩ := (hk.on l1).cut 30 (by omega) (by decide)
      refine EW.region ?_
      first | refine WL.move rfl rfl rfl ?_
      refine WL.sliceH rfl rfl rfl rfl (hcut _) ?_
      first | refine WL.assign rfl rfl rfl ?_
      refine WL.done ?_
      exact EW.met v5 [0, 1, 5] rfl ⟨rfl, _, hk5, by rw [List.length_take]; omega⟩
    · refine EW.skip ?_
      exact EW.met v [0, 1, 5] rfl ⟨rfl, Ks0, hk.on l1, by omega⟩
  · rintro d W1 ⟨hW1, Ks', hk', hle⟩
    rw [hW1]
    show EW _ _ _ _ [(0, d), (1, u32v mk), (5, .pointer (some ⟨p, 0, none⟩))] _
    refine EW.seq ?_
    obtain ⟨vb, wb, rb, kob, lb, cb, hvb⟩ := bslK2 (1 :: List.replicate 31 0) (2 :: List.replicate 31 0) rfl rfl w1
    obtain ⟨va, wa, ra, koa, fa, na⟩ := kob.app (hk'.on lb) (by simp only [List.length_cons, List.length_nil]; omega) 22
    have hvbo : ∀ b, vb.ownBlock = some b → b = w1.heap.size := fun b hb => by
      rw [hvb] at hb
      simp only [Value.ownBlock, Option.some.injEq] at hb
      omega
    have hva : ∀ b, va.ownBlock = some b → w1.heap.size ≤ b := fun b hb => by
      rcases na b hb with e | e
      · have := hvbo b e; omega
      · have := lb.size; omega
    have hpl := tb1.bl.lt
    have hrl := tb1.mp.ltb
    have tb2 : Tb wa p r 64 [] 0 := (tb1.on lb).fx fa (fun e => by have := hvbo _ e; omega) (fun e => by have := hvbo _ e; omega)
    obtain ⟨Ks, hKs⟩ : ∃ Ks, Ks = [(1 :: List.replicate 31 0 : List UInt8), 2 :: List.replicate 31 0] ++ Ks' := ⟨_, rfl⟩
    rw [← hKs] at koa
    have hn1 : 0 < Ks.length ∧ Ks.length ≤ 32 := by rw [hKs]; simp; omega
    have be2 : Below w.heap.size w wa := (bt l1 lb).trans (fa.below (fun k hk e => by have := hvbo _ e; have := l1.size; omega) (bt l1 lb).size)
    refine EW.region ?_
    refine WL.buildN [(0, .int .u8 1)] rfl rfl rfl (b29_1 _) ?_
    refine WL.buildN [(0, .int .u8 2)] rfl rfl rfl (b29_2 _) ?_
    refine WL.bslN [(0, kv (1 :: List.replicate 31 0)), (1, kv (2 :: List.replicate 31 0))] rfl rfl rfl rb ?_
    first | refine WL.move rfl rfl rfl ?_
    refine WL.app rfl rfl rfl rfl ra ?_
    first | refine WL.assign rfl rfl rfl ?_
    refine WL.done ?_
    refine EW.on ?_
    refine EW.seq ?_
    refine EW.seq ?_
    refine EW.region ?_
    first | refine WL.move rfl rfl rfl ?_
    first | refine WL.move rfl rfl rfl ?_
    refine WL.call [.pointer (some ⟨p, 0, none⟩), u32v 0, u32v 0, va] enter7 rfl rfl rfl (add_any tb2 (Nat.zero_le _) (by decide) 0 0 (by decide) (by decide) koa.kl (by omega) (fun b hb => .inl (by have := hva b hb; omega))) ?_
    rintro x3 w3 ⟨rfl, _, h30, f3⟩
    refine ⟨_, rfl, ?_⟩
    have tb3 := h30 (adn_h (by omega))
    rw [adn_h (by omega)]
    rw [List.nil_append, Nat.zero_add] at tb3
    have ko3 := koa.fx f3 (fun b hb e => by have := hva b hb; omega)
    have be3 := bfx be2 f3 hr
    first | refine WL.bin rfl rfl rfl rfl (int_ne_f rfl _ _ _) ?_ | refine WL.bin rfl rfl rfl rfl (int_ne_t ‹_› _ _ _) ?_ | refine WL.bin rfl rfl rfl rfl (int_ne_f ‹_› _ _ _) ?_ | refine WL.bin rfl rfl rfl rfl (int_ne_t (by decide) _ _ _) ?_ | refine WL.bin rfl rfl rfl rfl (int_ne_d _ _ _ _ _) ?_
    refine WL.done ?_
    refine EW.on ?_
    refine EW.cond_f rfl ?_
    refine EW.skip ?_
    refine EW.on ?_
    refine EW.seq ?_
    refine EW.region ?_
    first | refine WL.move rfl rfl rfl ?_
    refine WL.call [.pointer (some ⟨p, 0, none⟩)] enter12 rfl rfl rfl (copy_any tb3) ?_
    rintro x4 w4 ⟨p2, r2, rfl, tc4, hp2, hr2, l4⟩
    refine ⟨_, rfl, ?_⟩
    have tb4 := tb3.on l4
    first | refine WL.assign rfl rfl rfl ?_
    refine WL.done ?_
    refine EW.on ?_
    refine EW.seq ?_
    refine EW.region ?_
    first | refine WL.move rfl rfl rfl ?_
    refine WL.call [.pointer (some ⟨p, 0, none⟩)] enter11 rfl rfl rfl (list_any tb4 (by rw [adE_len]; omega)) ?_
    rintro x5 w5 ⟨av, la5, rfl, hp5, ha5, so5, hu5, l5⟩
    refine ⟨_, rfl, ?_⟩
    have el5 := asc_uniq (hp5.trans (LH_perm Ks)) ha5 (LH_lt Ks)
    rw [el5] at so5
    have tb5 := tb4.on l5
    first | refine WL.assign rfl rfl rfl ?_
    refine WL.done ?_
    refine EW.on ?_
    refine EW.seq ?_
    refine EW.region ?_
    first | refine WL.move rfl rfl rfl ?_
    refine WL.call [.pointer (some ⟨p, 0, none⟩)] enter11 rfl rfl rfl (list_any tb5 (by rw [adE_len]; omega)) ?_
    rintro x6 w6 ⟨bv, la6, rfl, hp6, ha6, so6, hu6, l6⟩
    refine ⟨_, rfl, ?_⟩
    have el6 := asc_uniq (hp6.trans (LH_perm Ks)) ha6 (LH_lt Ks)
    rw [el6] at so6
    have tb6 := tb5.on l6
    first | refine WL.assign rfl rfl rfl ?_
    refine WL.done ?_
    refine EW.on ?_
    refine EW.seq ?_
    refine EW.seq ?_
    refine EW.region ?_
    first | refine WL.move rfl rfl rfl ?_
    refine WL.bin rfl rfl rfl rfl (neP p2 _ _ _) ?_
    first | refine WL.move rfl rfl rfl ?_
    first | refine WL.move rfl rfl rfl ?_ | refine WL.skip _ rfl rfl rfl ?_
    refine WL.len rfl rfl rfl (so5.sl.len _ _) ?_
    first | refine WL.move rfl rfl rfl ?_ | refine WL.skip _ rfl rfl rfl ?_
    refine WL.len rfl rfl rfl (koa.kl.len _ _) ?_
    refine WL.bin rfl rfl rfl rfl (int_ne_f (by rw [LH_len]) _ _ _) ?_
    first | refine WL.pick rfl rfl rfl rfl ?_
    first | refine WL.move rfl rfl rfl ?_
    first | refine WL.move rfl rfl rfl ?_ | refine WL.skip _ rfl rfl rfl ?_
    refine WL.len rfl rfl rfl (so6.sl.len _ _) ?_
    first | refine WL.move rfl rfl rfl ?_ | refine WL.skip _ rfl rfl rfl ?_
    refine WL.len rfl rfl rfl (so5.sl.len _ _) ?_
    first | refine WL.bin rfl rfl rfl rfl (int_ne_f rfl _ _ _) ?_ | refine WL.bin rfl rfl rfl rfl (int_ne_t ‹_› _ _ _) ?_ | refine WL.bin rfl rfl rfl rfl (int_ne_f ‹_› _ _ _) ?_ | refine WL.bin rfl rfl rfl rfl (int_ne_t (by decide) _ _ _) ?_ | refine WL.bin rfl rfl rfl rfl (int_ne_d _ _ _ _ _) ?_ | refine WL.skip _ rfl rfl rfl ?_
    first | refine WL.pick rfl rfl rfl rfl ?_
    refine WL.done ?_
    refine EW.on ?_
    refine EW.cond_f rfl ?_
    refine EW.skip ?_
    refine EW.on ?_
    refine EW.seq ?_
    obtain ⟨vc, wc, rc, soc, lc, cc, hvc⟩ := bslS0 w6
    obtain ⟨a0, wd, rd, sod, fd, nd⟩ := soc.app (so5.on (bt l6 lc)).sl (by rw [LH_len]; simp only [List.length_nil]; omega) 36
    rw [List.nil_append] at sod
    have hvco : ∀ b, vc.ownBlock = some b → b = w6.heap.size := fun b hb => by
      rw [hvc] at hb
      simp only [Value.ownBlock, Option.some.injEq] at hb
      omega
    have ha0 : ∀ b, a0.ownBlock = some b → w6.heap.size ≤ b := fun b hb => by
      rcases nd b hb with e | e
      · have := hvco b e; omega
      · have := lc.size; omega
    have s34 := l4.size
    have s45 := l5.size
    have s56 := l6.size
    have q3 := tb3.bl.lt
    have q4 := tb3.mp.ltb
    have q5 := tc4.bl.lt
    have q6 := tc4.mp.ltb
    have be6 : Below w.heap.size w w6 := bt be3 (bt l4 (bt l5 l6))
    have l46 : Below w3.heap.size w3 w6 := bt l4 (bt l5 l6)
    have ll6 : Below w6.heap.size w6 wd := lc.trans (fd.below (fun k hk e => by have := hvco k e; omega) lc.size)
    have S0 : HS w p r p2 r2 va av a0 Ks (adE 0 0 0 Ks) Ks.length wd := ⟨tb6.on ll6, (tc4.on (bt l5 l6)).on ll6, (ko3.on l46).on ll6, (so5.on l6).on ll6, sod, bt be6 ll6⟩
    have so6d := so6.on ll6
    have hval : ∀ b, va.ownBlock = some b → b < w3.heap.size := fun b hb => ko3.ow.lt hb
    have havl : ∀ b, av.ownBlock = some b → b < w5.heap.size := fun b hb => so5.ow.lt hb
    obtain ⟨g, gc, hbv⟩ : ∃ g gc, bv = .slice (some ⟨g, 0, none⟩) Ks.length gc := by
      rcases so6.ow.addr with ⟨_, e⟩ | ⟨g, gc, e⟩
      · have := congrArg List.length e
        rw [scs_len, LH_len] at this
        simp only [List.length_nil] at this
        omega
      · exact ⟨g, gc, by rw [e, scs_len, LH_len]⟩
    have hg1 : w5.heap.size ≤ g := hu6 g (by rw [hbv]; rfl)
    have hg2 : g < w6.heap.size := so6.ow.lt (by rw [hbv]; rfl)
    have hgw : w.heap.size ≤ g := by have := be3.size; omega
    have D1 : p ≠ g ∧ r ≠ g ∧ p2 ≠ g ∧ r2 ≠ g := ⟨by omega, by omega, by omega, by omega⟩
    have D2 : ∀ b, va.ownBlock = some b → b ≠ g := fun b hb => by have := hval b hb; omega
    have D3 : ∀ b, av.ownBlock = some b → b ≠ g := fun b hb => by have := havl b hb; omega
    have D4 : ∀ b, a0.ownBlock = some b → b ≠ g := fun b hb => by have := ha0 b hb; omega
    refine EW.region ?_
    refine WL.bslN [] rfl rfl rfl rc ?_
    first | refine WL.move rfl rfl rfl ?_
    refine WL.app rfl rfl rfl rfl rd ?_
    first | refine WL.assign rfl rfl rfl ?_
    refine WL.done ?_
    refine EW.on ?_
    refine EW.seq ?_
    refine EW.seq ?_
    refine EW.region ?_
    first | refine WL.assign rfl rfl rfl ?_
    refine WL.done ?_
    refine EW.on ?_
    refine EW.block ?_
    refine EW.loop (pE1 p p2 mk va av a0 bv) (PR1 w p r p2 r2 mk va av a0 bv Ks) (fun x => Ks.length - x) 0 [0, 1, 5, 7, 8, 9, 10, 11] rfl ⟨Nat.zero_le _, S0, by simpa [BL] using so6d⟩ ?_
    rintro x wi ⟨hxl, S, sox⟩
    show EW _ _ _ _ [(0, va), (1, u32v mk), (5, .pointer (some ⟨p, 0, none⟩)), (7, .pointer (some ⟨p2, 0, none⟩)), (8, av), (9, bv), (10, a0), (11, .int .i64 (x : Int))] _
    refine EW.seq ?_
    refine EW.seq ?_
    refine EW.region ?_
    first | refine WL.move rfl rfl rfl ?_
    first | refine WL.move rfl rfl rfl ?_
    refine WL.len rfl rfl rfl (so6.sl.len _ _) ?_
    refine WL.bin rfl rfl rfl rfl (int_lt_d _ _ _ _ _) ?_
    refine WL.done ?_
    refine EW.on ?_
    refine EW.cond_d rfl (fun h70 => ?_) (fun h70 => ?_)
    · refine EW.skip ?_
      refine EW.on ?_
      refine EW.seq ?_
      refine EW.block ?_
      have hlt : x < Ks.length := by have := LH_len Ks; omega
      have hlL : x < (LH Ks).length := by rw [LH_len]; exact hlt
      have hxo : Sk.ok ⟨mk, x, z32⟩ := ⟨hmk, by show x < _; omega, rfl⟩
      rw [hbv] at sox
      obtain ⟨ws, rs, sos, fs⟩ := sox.set (i := x) (by rw [BL_len _ _ _ (by omega)]; exact hlL) hxo
      rw [BL_set _ _ _ hlL, ← hbv] at sos
      have ixs : (Instr.indexAt 36 bv (.int .i64 (x : Int))).run Try.prog wi = .ok (.pointer (some ((⟨g, 0, none⟩ : Addr).add (x * 34)))) wi := by rw [hbv]; exact idx36 _ _ _ _ hlt _
      refine EW.region ?_
      first | refine WL.move rfl rfl rfl ?_
      first | refine WL.move rfl rfl rfl ?_
      first | refine WL.move rfl rfl rfl ?_
      first | refine WL.move rfl rfl rfl ?_
      refine WL.conv rfl rfl rfl (cvU _ (by omega) _) ?_
      refine WL.buildN [(0, u32v mk), (1, u32v x)] rfl rfl rfl (b39_2 _ _ _) ?_
      refine WL.index rfl rfl rfl rfl ixs ?_
      refine WL.store rfl rfl rfl rs ?_
      refine WL.done ?_
      have S1 := S.fx fs D1 D2 D3 D4 hgw
      have so1 := sos
      refine pn_block ?_
      refine EW.on ?_
      refine EW.region ?_
      first | refine WL.move rfl rfl rfl ?_
      refine WL.bin rfl rfl rfl rfl (int_add (c := ((x + 1 : Nat) : Int)) (by rw [IntKind.wrap_i64]; omega) _ _ _) ?_
      first | refine WL.assign rfl rfl rfl ?_
      refine WL.done ?_
      exact EW.again (E := pE1 p p2 mk va av a0 bv) (R := PR1 w p r p2 r2 mk va av a0 bv Ks) (m := fun x => Ks.length - x) (x := x) (x + 1) [0, 1, 5, 7, 8, 9, 10, 11] rfl ⟨by omega, S1, so1⟩ (by show Ks.length - (x + 1) < Ks.length - x; omega)
    · refine EW.exit ?_
      refine px_then ?_
      refine px_then ?_
      refine px_block ?_
      refine EW.on ?_
      refine EW.seq ?_
      have exn : x = Ks.length := by have := LH_len Ks; omega
      rw [exn] at sox
      have hmo : Sk.ok ⟨mk, 999, z32⟩ := ⟨hmk, by show 999 < _; decide, rfl⟩
      obtain ⟨ve, we1, re, soe, le, ce, hve⟩ := bslS1 ⟨mk, 999, z32⟩ hmo wi
      have sxe := sox.on le
      have hbb : ((BL mk Ks.length (LH Ks)).length + ([⟨mk, 999, z32⟩] : List Sk).length) * 40 ≤ 140737488355328 := by rw [BL_len _ _ _ (by rw [LH_len]; exact Nat.le_refl _), LH_len]; simp only [List.length_cons, List.length_nil]; omega
      obtain ⟨mv, wf1, rf, som, fm, nm⟩ := sxe.app soe.sl hbb 36
      have blm := sxe.app_old soe.sl hbb 36 rf som
      have fm' : Fx (fun k => k = g) we1 wf1 := fm.mono (fun i _ h => by rw [hbv] at h; simp only [Value.ownBlock, Option.some.injEq] at h; exact h.symm)
      have Sm := (S.on le).fx fm' D1 D2 D3 D4 hgw
      have hmv : ∀ b, mv.ownBlock = some b → b = g ∨ wi.heap.size ≤ b := fun b hb => by
        rcases nm b hb with e | e
        · rw [hbv] at e; simp only [Value.ownBlock, Option.some.injEq] at e; exact .inl e.symm
        · right; have := le.size; omega
      have hgi : g < wi.heap.size := sox.ow.lt (by rw [hbv]; rfl)
      have r2i : r2 < wi.heap.size := S.tc.mp.ltb
      refine EW.region ?_
      first | refine WL.move rfl rfl rfl ?_
      first | refine WL.move rfl rfl rfl ?_
      refine WL.buildN [(0, u32v mk), (1, u32v 999)] rfl rfl rfl (b39_2 _ _ _) ?_
      refine WL.bslN [(0, Sk.v ⟨mk, 999, z32⟩)] rfl rfl rfl re ?_
      refine WL.app rfl rfl rfl rfl rf ?_
      first | refine WL.assign rfl rfl rfl ?_
      refine WL.done ?_
      refine EW.on ?_
      refine EW.seq ?_
      refine EW.seq ?_
      refine EW.region ?_
      first | refine WL.move rfl rfl rfl ?_
      first | refine WL.move rfl rfl rfl ?_
      refine WL.call [av, a0] enter13 rfl rfl rfl (sameL_any Sm.a.sl Sm.a0.sl (by rw [LH_len]; omega)) ?_
      rintro x7 w7 ⟨rfl, l7⟩
      refine ⟨_, rfl, ?_⟩
      have S7 := Sm.on l7
      refine WL.un rfl rfl rfl (not_b _ _) ?_
      refine WL.done ?_
      refine EW.on ?_
      refine EW.cond_f rfl ?_
      refine EW.skip ?_
      refine EW.on ?_
      refine EW.seq ?_
      refine EW.region ?_
      first | refine WL.move rfl rfl rfl ?_
      refine WL.call [.pointer (some ⟨p2, 0, none⟩), u32v 0, u32v 0] enter10 rfl rfl rfl (ttake_any S7.tc 0 0) ?_
      rintro x8 w8 ⟨rfl, tc8, f8⟩
      refine ⟨_, rfl, ?_⟩
      have hlk : lkE (adE 0 0 0 Ks) 0 0 = some (Ks.getD 0 []) := lk_mem S7.tb.mp.nd (m := ⟨0, 0, Ks.getD 0 [], 0⟩) (by
        rw [adE_range]
        exact List.mem_map.2 ⟨0, List.mem_range.2 (by omega), rfl⟩)
      rw [hlk]
      have hK0 := koa.kl.at32 (koa.kl.sub (i := 0) (by omega))
      obtain ⟨q13, wu, wv, a13, s13, b13, l13, hq13⟩ := newK w8 (Ks.getD 0 []) hK0
      first | refine WL.move rfl rfl rfl ?_
      first | refine WL.extract rfl rfl rfl (ext_2 _ _ _).1 ?_
      first | refine WL.extract rfl rfl rfl (ext_2 _ _ _).2 ?_
      refine WL.new rfl rfl a13 ?_
      refine WL.store rfl rfl rfl s13 ?_
      first | refine WL.assign rfl rfl rfl ?_
      refine WL.done ?_
      refine EW.on ?_
      refine EW.seq ?_
      have be8 := bfx S7.be f8 (by have := be3.size; omega)
      have tc9 := tc8.on l13
      have S9 : HS w p r p2 r2 va av a0 Ks (delE (adE 0 0 0 Ks) 0 0) Ks.length wv := HS.on ⟨S7.tb.fx f8 (by omega) (by omega), tc8, S7.ko.fx f8 (fun b hb e => by have := hval b hb; omega), S7.a.fx f8 (fun b hb e => by have := hu5 b hb; omega), S7.a0.fx f8 (fun b hb e => by have := ha0 b hb; omega), be8⟩ l13
      have mo9 := ((som.on l7).fx f8 (fun b hb e => by rcases hmv b hb with e2 | e2 <;> omega)).on l13
      have bl9 := ((blm.on l7).fx f8 (fun b hb => .inl (by rw [hbv] at hb; simp only [Value.ownBlock, Option.some.injEq] at hb; omega))).on l13
      obtain ⟨vg, wg, rg, kog, lg, cg, hvg⟩ := bslK1 (9 :: List.replicate 31 0) rfl wv
      refine EW.region ?_
      first | refine WL.move rfl rfl rfl ?_
      refine WL.buildN [(0, .int .u8 9)] rfl rfl rfl (b29_9 _) ?_
      refine WL.bslN [(0, kv (9 :: List.replicate 31 0))] rfl rfl rfl rg ?_
      refine WL.call [.pointer (some ⟨p2, 0, none⟩), u32v 9, u32v 9, vg] enter7 rfl rfl rfl (add_any (tc9.on lg) (by rw [delH_len Ks (by omega)]; omega) (by decide) 9 9 (by decide) (by decide) kog.kl (by decide) (fun b hb => .inl (by rw [hvg] at hb; simp only [Value.ownBlock, Option.some.injEq] at hb; have := tc9.mp.ltb; omega))) ?_
      rintro xa wa' ⟨rfl, _, hadd9, fa'⟩
      refine ⟨_, rfl, ?_⟩
      have tca := hadd9 (adn_9 (by omega) (by omega))
      rw [show ([9 :: List.replicate 31 0] : List (List UInt8)).length = 1 from rfl] at tca
      rw [show ([9 :: List.replicate 31 0] : List (List UInt8)).length = 1 from rfl, adn_9 (by omega) (by omega)]
      first | refine WL.assign rfl rfl rfl ?_
      refine WL.done ?_
      refine EW.on ?_
      refine EW.seq ?_
      have S9g := S9.on lg
      have Sa : HS w p r p2 r2 va av a0 Ks (delE (adE 0 0 0 Ks) 0 0 ++ adE 9 9 Ks.length [9 :: List.replicate 31 0]) (Ks.length + 1) wa' := ⟨S9g.tb.fx fa' (by omega) (by omega), tca, S9g.ko.fx fa' (fun b hb e => by have := hval b hb; omega), S9g.a.fx fa' (fun b hb e => by have := hu5 b hb; omega), S9g.a0.fx fa' (fun b hb e => by have := ha0 b hb; omega), bfx S9g.be fa' (by have := be3.size; omega)⟩
      have moa := (mo9.on lg).fx fa' (fun b hb e => by rcases hmv b hb with e2 | e2 <;> omega)
      have bla := (bl9.on lg).fx fa' (fun b hb => .inl (by rw [hbv] at hb; simp only [Value.ownBlock, Option.some.injEq] at hb; omega))
      refine EW.region ?_
      first | refine WL.move rfl rfl rfl ?_
      refine WL.call [.pointer (some ⟨p, 0, none⟩)] enter11 rfl rfl rfl (list_any Sa.tb (by rw [adE_len]; omega)) ?_
      rintro xb wb' ⟨dv, lab, rfl, hpb, hab, sob, hub, lb'⟩
      refine ⟨_, rfl, ?_⟩
      have elb := asc_uniq (hpb.trans (LH_perm Ks)) hab (LH_lt Ks)
      rw [elb] at sob
      have Sb := Sa.on lb'
      have mob := moa.on lb'
      have blb := bla.on lb' 
      first | refine WL.assign rfl rfl rfl ?_
      refine WL.done ?_
      refine EW.on ?_
      refine EW.seq ?_
      refine EW.seq ?_
      obtain ⟨adm, ixm, ldm⟩ := som.sl.get (i := (LH Ks).length) (s := ⟨mk, 999, z32⟩) (by rw [List.getElem?_append_right (by rw [BL_len _ _ _ (by rw [LH_len]; exact Nat.le_refl _)]; exact Nat.le_refl _), BL_len _ _ _ (by rw [LH_len]; exact Nat.le_refl _), Nat.sub_self]; rfl)
      refine EW.region ?_
      first | refine WL.move rfl rfl rfl ?_
      first | refine WL.bin rfl rfl rfl rfl (int_ne_f rfl _ _ _) ?_ | refine WL.bin rfl rfl rfl rfl (int_ne_t ‹_› _ _ _) ?_ | refine WL.bin rfl rfl rfl rfl (int_ne_f ‹_› _ _ _) ?_ | refine WL.bin rfl rfl rfl rfl (int_ne_t (by decide) _ _ _) ?_ | refine WL.bin rfl rfl rfl rfl (int_ne_d _ _ _ _ _) ?_
      first | refine WL.move rfl rfl rfl ?_
      first | refine WL.move rfl rfl rfl ?_ | refine WL.skip _ rfl rfl rfl ?_
      first | refine WL.bin rfl rfl rfl rfl (int_ne_f rfl _ _ _) ?_ | refine WL.bin rfl rfl rfl rfl (int_ne_t ‹_› _ _ _) ?_ | refine WL.bin rfl rfl rfl rfl (int_ne_f ‹_› _ _ _) ?_ | refine WL.bin rfl rfl rfl rfl (int_ne_t (by decide) _ _ _) ?_ | refine WL.bin rfl rfl rfl rfl (int_ne_d _ _ _ _ _) ?_ | refine WL.skip _ rfl rfl rfl ?_
      first | refine WL.pick rfl rfl rfl rfl ?_
      first | refine WL.move rfl rfl rfl ?_
      first | refine WL.move rfl rfl rfl ?_ | refine WL.skip _ rfl rfl rfl ?_
      first | refine WL.move rfl rfl rfl ?_ | refine WL.skip _ rfl rfl rfl ?_
      refine WL.call [dv, a0] enter13 rfl rfl rfl (sameL_any sob.sl Sb.a0.sl (by rw [LH_len]; omega)) ?_
      rintro xc wc' ⟨rfl, lc'⟩
      refine ⟨_, rfl, ?_⟩
      have Sc := Sb.on lc'
      have moc := mob.on lc'
      have blc := blb.on lc' 
      refine WL.un rfl rfl rfl (not_b _ _) ?_
      first | refine WL.pick rfl rfl rfl rfl ?_
      first | refine WL.move rfl rfl rfl ?_
      first | refine WL.move rfl rfl rfl ?_ | refine WL.skip _ rfl rfl rfl ?_
      first | refine WL.move rfl rfl rfl ?_ | refine WL.skip _ rfl rfl rfl ?_
      refine WL.call [av, a0] enter13 rfl rfl rfl (sameL_any Sc.a.sl Sc.a0.sl (by rw [LH_len]; omega)) ?_
      rintro xd wd' ⟨rfl, ld'⟩
      refine ⟨_, rfl, ?_⟩
      have Sd := Sc.on ld'
      have mod := moc.on ld'
      have bld := blc.on ld' 
      refine WL.un rfl rfl rfl (not_b _ _) ?_
      first | refine WL.pick rfl rfl rfl rfl ?_
      first | refine WL.move rfl rfl rfl ?_
      first | refine WL.move rfl rfl rfl ?_ | refine WL.skip _ rfl rfl rfl ?_
      refine WL.call [.pointer (some ⟨p, 0, none⟩)] enter8 rfl rfl rfl (len_any Sd.tb) ?_
      rintro xe we ⟨rfl, hwe⟩
      refine ⟨_, rfl, ?_⟩
      rw [hwe, adE_len]
      first | refine WL.move rfl rfl rfl ?_ | refine WL.skip _ rfl rfl rfl ?_
      refine WL.len rfl rfl rfl (koa.kl.len _ _) ?_
      first | refine WL.bin rfl rfl rfl rfl (int_ne_f rfl _ _ _) ?_ | refine WL.bin rfl rfl rfl rfl (int_ne_t ‹_› _ _ _) ?_ | refine WL.bin rfl rfl rfl rfl (int_ne_f ‹_› _ _ _) ?_ | refine WL.bin rfl rfl rfl rfl (int_ne_t (by decide) _ _ _) ?_ | refine WL.bin rfl rfl rfl rfl (int_ne_d _ _ _ _ _) ?_ | refine WL.skip _ rfl rfl rfl ?_
      first | refine WL.pick rfl rfl rfl rfl ?_
      first | refine WL.move rfl rfl rfl ?_
      first | refine WL.move rfl rfl rfl ?_ | refine WL.skip _ rfl rfl rfl ?_
      refine WL.call [.pointer (some ⟨p2, 0, none⟩)] enter8 rfl rfl rfl (len_any Sd.tc) ?_
      rintro xf wf ⟨rfl, hwf⟩
      refine ⟨_, rfl, ?_⟩
      rw [hwf, List.length_append, delH_len Ks (by omega), adE_len, show Ks.length - 1 + ([9 :: List.replicate 31 0] : List (List UInt8)).length = Ks.length by show Ks.length - 1 + 1 = _; omega]
      first | refine WL.move rfl rfl rfl ?_ | refine WL.skip _ rfl rfl rfl ?_
      refine WL.len rfl rfl rfl (koa.kl.len _ _) ?_
      first | refine WL.bin rfl rfl rfl rfl (int_ne_f rfl _ _ _) ?_ | refine WL.bin rfl rfl rfl rfl (int_ne_t ‹_› _ _ _) ?_ | refine WL.bin rfl rfl rfl rfl (int_ne_f ‹_› _ _ _) ?_ | refine WL.bin rfl rfl rfl rfl (int_ne_t (by decide) _ _ _) ?_ | refine WL.bin rfl rfl rfl rfl (int_ne_d _ _ _ _ _) ?_ | refine WL.skip _ rfl rfl rfl ?_
      first | refine WL.pick rfl rfl rfl rfl ?_
      first | refine WL.move rfl rfl rfl ?_
      first | refine WL.move rfl rfl rfl ?_ | refine WL.skip _ rfl rfl rfl ?_
      first | refine WL.move rfl rfl rfl ?_ | refine WL.skip _ rfl rfl rfl ?_
      refine WL.len rfl rfl rfl (so6.sl.len _ _) ?_
      refine WL.index rfl rfl rfl rfl (ixm _) ?_
      refine WL.load rfl rfl rfl (ldm _ mod.sl).1 ?_
      first | refine WL.move rfl rfl rfl ?_ | refine WL.skip _ rfl rfl rfl ?_
      refine WL.buildN [(0, u32v mk), (1, u32v 999)] rfl rfl rfl (b39_2 _ _ _) ?_
      refine WL.bin rfl rfl rfl rfl (neq39_same hmo _ _ _) ?_
      first | refine WL.pick rfl rfl rfl rfl ?_
      refine WL.done ?_
      refine EW.on ?_
      refine EW.cond_f rfl ?_
      refine EW.skip ?_
      refine EW.on ?_
      refine EW.seq ?_
      refine EW.seq ?_
      refine EW.region ?_
      first | refine WL.assign rfl rfl rfl ?_
      refine WL.done ?_
      refine EW.on ?_
      refine EW.block ?_
      refine EW.loop (pE2 mk bv) (PR2 w Ks.length mk bv (BL mk Ks.length (LH Ks))) (fun x => Ks.length - x) 0 [1, 9, 17] rfl ⟨Nat.zero_le _, bld, Sd.be⟩ ?_
      rintro x wz ⟨hxz, sbx, bez⟩
      show EW _ _ _ _ [(1, u32v mk), (9, bv), (17, .int .i64 (x : Int))] _
      refine EW.seq ?_
      refine EW.seq ?_
      refine EW.region ?_
      first | refine WL.move rfl rfl rfl ?_
      first | refine WL.move rfl rfl rfl ?_
      refine WL.len rfl rfl rfl (so6.sl.len _ _) ?_
      refine WL.bin rfl rfl rfl rfl (int_lt_d _ _ _ _ _) ?_
      refine WL.done ?_
      refine EW.on ?_
      refine EW.cond_d rfl (fun h145 => ?_) (fun h145 => ?_)
      · refine EW.skip ?_
        refine EW.on ?_
        refine EW.seq ?_
        refine EW.block ?_
        refine EW.seq ?_
        have hlt : x < Ks.length := by have := LH_len Ks; omega
        obtain ⟨adb, ixb, ldb⟩ := bld.get (BL_at mk Ks.length (LH Ks) x hlt)
        have hxo : Sk.ok ⟨mk, x, z32⟩ := ⟨hmk, by show x < _; omega, rfl⟩
        refine EW.region ?_
        first | refine WL.move rfl rfl rfl ?_
        first | refine WL.move rfl rfl rfl ?_
        refine WL.index rfl rfl rfl rfl (ixb _) ?_
        refine WL.load rfl rfl rfl (ldb _ sbx).1 ?_
        first | refine WL.move rfl rfl rfl ?_
        first | refine WL.move rfl rfl rfl ?_
        refine WL.conv rfl rfl rfl (cvU _ (by omega) _) ?_
        refine WL.buildN [(0, u32v mk), (1, u32v x)] rfl rfl rfl (b39_2 _ _ _) ?_
        refine WL.bin rfl rfl rfl rfl (neq39_same hxo _ _ _) ?_
        refine WL.done ?_
        refine EW.on ?_
        refine EW.cond_f rfl ?_
        refine EW.skip ?_
        refine pn_block ?_
        refine EW.on ?_
        refine EW.region ?_
        first | refine WL.move rfl rfl rfl ?_
        refine WL.bin rfl rfl rfl rfl (int_add (c := ((x + 1 : Nat) : Int)) (by rw [IntKind.wrap_i64]; omega) _ _ _) ?_
        first | refine WL.assign rfl rfl rfl ?_
        refine WL.done ?_
        exact EW.again (E := pE2 mk bv) (R := PR2 w Ks.length mk bv (BL mk Ks.length (LH Ks))) (m := fun x => Ks.length - x) (x := x) (x + 1) [1, 9, 17] rfl ⟨by omega, sbx, bez⟩ (by show Ks.length - (x + 1) < Ks.length - x; omega)
      · refine EW.exit ?_
        refine px_then ?_
        refine px_then ?_
        refine px_block ?_
        refine EW.on ?_
        refine EW.seq ?_
        refine EW.region ?_
        first | refine WL.assign rfl rfl rfl ?_
        refine WL.done ?_
        refine EW.on ?_
        refine EW.ret ?_
        exact EW.returns Try.results4 rfl ⟨rfl, bez⟩
end Go.Proofs.Ytggehhlobjjmpaa
