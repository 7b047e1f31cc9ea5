import Derived.Test.YtnfikgnploockaaDoorSn
set_option linter.unusedVariables false
set_option linter.unusedSimpArgs false
namespace Go.Proofs.YtnfikgnploockaaDoor
open Go.RowKit

set_option maxRecDepth 100000 in
set_option maxHeartbeats 1000000 in
theorem rdigits_any (a ka b kb : List UInt8) (hKa : ka.length = 32) (hKb : kb.length = 32) (w : World) (hL : Dst w) : Calls Tryd.prog 39 #[sv a, kv ka, sv b, kv kb] w fun e w' => e = .returned (.tuple #[sv (bhD a ka b kb), .int .i64 (bhE a b)]) ∧ Below w.heap.size w w' := by
  obtain ⟨w1, q1, r1, b1, l1, hq1⟩ := box22 ka w
  obtain ⟨w2, q2, r2, b2, l2, hq2⟩ := box22 kb w1
  refine calls_of_args [sv a, kv ka, sv b, kv kb] Tryd.func39 rfl 41 Tryd.ntmps39 (by show 4 ≤ 41; decide) ?_
  refine EW.seq ?_
  refine EW.region ?_
  refine WL.box rfl rfl rfl r1 ?_
  refine WL.box rfl rfl rfl r2 ?_
  first | refine WL.assign rfl rfl rfl ?_
  first | refine WL.assign rfl rfl rfl ?_
  refine WL.done ?_
  refine EW.on ?_
  refine EW.seq ?_
  refine EW.region ?_
  first | refine WL.move rfl rfl rfl ?_
  refine WL.load rfl rfl rfl (ld22 (b1.on l2) hKa) ?_
  refine WL.call [sv a, kv ka] enter27 rfl rfl rfl (rhalf_any a ka hKa w2 ((hL.on l1).on l2)) ?_
  rintro _ w3 ⟨rfl, l3⟩
  refine ⟨_, rfl, ?_⟩
  first | refine WL.move rfl rfl rfl ?_
  first | refine WL.extract rfl rfl rfl (ext_2 _ _ _).1 ?_
  first | refine WL.extract rfl rfl rfl (ext_2 _ _ _).2 ?_
  first | refine WL.assign rfl rfl rfl ?_
  first | refine WL.assign rfl rfl rfl ?_
  refine WL.done ?_
  refine EW.on ?_
  refine EW.seq ?_
  refine EW.seq ?_
  refine EW.region ?_
  first | refine WL.move rfl rfl rfl ?_
  refine WL.bin rfl rfl rfl rfl (int_ne_d _ _ _ _ _) ?_
  refine WL.done ?_
  refine EW.on ?_
  refine EW.cond_d rfl (fun h21 => ?_) (fun h21 => ?_)
  · refine EW.seq ?_
    refine EW.region ?_
    first | refine WL.move rfl rfl rfl ?_
    first | refine WL.assign rfl rfl rfl ?_
    first | refine WL.assign rfl rfl rfl ?_
    refine WL.done ?_
    refine EW.on ?_
    refine EW.ret ?_
    refine pr_then ?_
    exact EW.returns2 Tryd.results39 rfl rfl ⟨by unfold bhD bhE; rw [if_neg h21, if_neg h21]; rfl, bt (bt l1 l2) l3⟩
  · refine EW.skip ?_
    refine EW.on ?_
    refine EW.seq ?_
    replace h21 : nmE a = 0 := by simpa using h21
    have ea : haD a ka = half a ka := by unfold haD; rw [if_pos h21]
    rw [ea]
    refine EW.region ?_
    first | refine WL.move rfl rfl rfl ?_
    refine WL.load rfl rfl rfl (ld22 (b2.on l3) hKb) ?_
    refine WL.call [sv b, kv kb] enter27 rfl rfl rfl (rhalf_any b kb hKb w3 (((hL.on l1).on l2).on l3)) ?_
    rintro _ w4 ⟨rfl, l4⟩
    refine ⟨_, rfl, ?_⟩
    first | refine WL.move rfl rfl rfl ?_
    first | refine WL.extract rfl rfl rfl (ext_2 _ _ _).1 ?_
    first | refine WL.extract rfl rfl rfl (ext_2 _ _ _).2 ?_
    first | refine WL.assign rfl rfl rfl ?_
    first | refine WL.assign rfl rfl rfl ?_
    refine WL.done ?_
    refine EW.on ?_
    refine EW.seq ?_
    refine EW.seq ?_
    refine EW.region ?_
    first | refine WL.move rfl rfl rfl ?_
    refine WL.bin rfl rfl rfl rfl (int_ne_d _ _ _ _ _) ?_
    refine WL.done ?_
    refine EW.on ?_
    refine EW.cond_d rfl (fun h30 => ?_) (fun h30 => ?_)
    · refine EW.seq ?_
      refine EW.region ?_
      first | refine WL.move rfl rfl rfl ?_
      first | refine WL.assign rfl rfl rfl ?_
      first | refine WL.assign rfl rfl rfl ?_
      refine WL.done ?_
      refine EW.on ?_
      refine EW.ret ?_
      refine pr_then ?_
      exact EW.returns2 Tryd.results39 rfl rfl ⟨by unfold bhD bhE; rw [if_pos h21, if_neg h30]; rfl, bt (bt (bt l1 l2) l3) l4⟩
    · refine EW.skip ?_
      refine EW.on ?_
      refine EW.seq ?_
      refine EW.seq ?_
      replace h30 : nmE b = 0 := by simpa using h30
      have eb : haD b kb = half b kb := by unfold haD; rw [if_pos h30]
      rw [eb]
      refine EW.region ?_
      first | refine WL.move rfl rfl rfl ?_
      first | refine WL.move rfl rfl rfl ?_
      refine WL.bin rfl rfl rfl rfl (str_lt_d _ _ _ _ _) ?_
      refine WL.done ?_
      refine EW.on ?_
      refine EW.cond_b rfl (fun h34 => ?_) (fun h34 => ?_)
      · refine EW.seq ?_
        refine EW.region ?_
        first | refine WL.move rfl rfl rfl ?_
        first | refine WL.move rfl rfl rfl ?_
        refine WL.bin rfl rfl rfl rfl (str_cat _ _ (by rw [half_len, half_len]; decide) _ _ _) ?_
        first | refine WL.assign rfl rfl rfl ?_
        first | refine WL.assign rfl rfl rfl ?_
        refine WL.done ?_
        refine EW.on ?_
        refine EW.ret ?_
        refine pr_then ?_
        exact EW.returns2 Tryd.results39 rfl rfl ⟨by unfold bhD bhE srt; rw [if_pos h21, if_pos h30, if_pos h34, h30], bt (bt (bt l1 l2) l3) l4⟩
      · refine EW.skip ?_
        refine EW.on ?_
        refine EW.seq ?_
        refine EW.region ?_
        first | refine WL.move rfl rfl rfl ?_
        first | refine WL.move rfl rfl rfl ?_
        refine WL.bin rfl rfl rfl rfl (str_cat _ _ (by rw [half_len, half_len]; decide) _ _ _) ?_
        first | refine WL.assign rfl rfl rfl ?_
        first | refine WL.assign rfl rfl rfl ?_
        refine WL.done ?_
        refine EW.on ?_
        refine EW.ret ?_
        exact EW.returns2 Tryd.results39 rfl rfl ⟨by unfold bhD bhE srt; rw [if_pos h21, if_pos h30, if_neg (by simpa using h34), h30], bt (bt (bt l1 l2) l3) l4⟩
def nbE (l : List UInt8) (n : Nat) : List (Nat × Value) := [(10, sv l), (12, sv (nG l n)), (13, .int .i64 ((5 * n : Nat) : Int))]
theorem grp_cut {l : List UInt8} (n : Nat) : (l.drop (5 * n)).take (5 * n + 5 - 5 * n) = grp l n := by unfold grp; congr 1; omega
set_option maxRecDepth 100000 in
set_option maxHeartbeats 1000000 in
theorem rnumber_any (a ka b kb : List UInt8) (hKa : ka.length = 32) (hKb : kb.length = 32) (w : World) (hL : Dst w) : Calls Tryd.prog 28 #[sv a, kv ka, sv b, kv kb] w fun e w' => e = .returned (.tuple #[sv (numD a ka b kb), .int .i64 (bhE a b)]) ∧ Below w.heap.size w w' := by
  obtain ⟨w1, q1, r1, b1, l1, hq1⟩ := box22 ka w
  obtain ⟨w2, q2, r2, b2, l2, hq2⟩ := box22 kb w1
  refine calls_of_args [sv a, kv ka, sv b, kv kb] Tryd.func28 rfl 41 Tryd.ntmps28 (by show 4 ≤ 41; decide) ?_
  refine EW.seq ?_
  refine EW.region ?_
  refine WL.box rfl rfl rfl r1 ?_
  refine WL.box rfl rfl rfl r2 ?_
  first | refine WL.assign rfl rfl rfl ?_
  first | refine WL.assign rfl rfl rfl ?_
  refine WL.done ?_
  refine EW.on ?_
  refine EW.seq ?_
  refine EW.region ?_
  first | refine WL.move rfl rfl rfl ?_
  refine WL.load rfl rfl rfl (ld22 (b1.on l2) hKa) ?_
  first | refine WL.move rfl rfl rfl ?_
  refine WL.load rfl rfl rfl (ld22 b2 hKb) ?_
  refine WL.call [sv a, kv ka, sv b, kv kb] enter39 rfl rfl rfl (rdigits_any a ka b kb hKa hKb w2 ((hL.on l1).on l2)) ?_
  rintro _ w3 ⟨rfl, l3⟩
  refine ⟨_, rfl, ?_⟩
  first | refine WL.move rfl rfl rfl ?_
  first | refine WL.extract rfl rfl rfl (ext_2 _ _ _).1 ?_
  first | refine WL.extract rfl rfl rfl (ext_2 _ _ _).2 ?_
  first | refine WL.assign rfl rfl rfl ?_
  first | refine WL.assign rfl rfl rfl ?_
  refine WL.done ?_
  refine EW.on ?_
  refine EW.seq ?_
  refine EW.seq ?_
  refine EW.region ?_
  first | refine WL.move rfl rfl rfl ?_
  refine WL.bin rfl rfl rfl rfl (int_ne_d _ _ _ _ _) ?_
  refine WL.done ?_
  refine EW.on ?_
  refine EW.cond_d rfl (fun h23 => ?_) (fun h23 => ?_)
  · refine EW.seq ?_
    refine EW.region ?_
    first | refine WL.move rfl rfl rfl ?_
    first | refine WL.assign rfl rfl rfl ?_
    first | refine WL.assign rfl rfl rfl ?_
    refine WL.done ?_
    refine EW.on ?_
    refine EW.ret ?_
    refine pr_then ?_
    exact EW.returns2 Tryd.results28 rfl rfl ⟨by unfold numD; rw [if_neg h23]; rfl, bt (bt l1 l2) l3⟩
  · refine EW.skip ?_
    refine EW.on ?_
    refine EW.seq ?_
    replace h23 : bhE a b = 0 := by simpa using h23
    obtain ⟨d, hd, hdl⟩ : ∃ d, bhD a ka b kb = d ∧ d.length = 60 := ⟨_, rfl, bhD_len ka kb h23⟩
    rw [hd]
    refine EW.region ?_
    first | refine WL.assign rfl rfl rfl ?_
    refine WL.done ?_
    refine EW.on ?_
    refine EW.seq ?_
    refine EW.seq ?_
    refine EW.region ?_
    first | refine WL.assign rfl rfl rfl ?_
    refine WL.done ?_
    refine EW.on ?_
    refine EW.block ?_
    refine EW.loop (nbE d) (fun n W => n ≤ 12 ∧ W = w3) (fun n => 12 - n) 0 [10, 12, 13] rfl ⟨by omega, rfl⟩ ?_
    rintro n W ⟨hn, hz⟩
    rw [hz]
    clear hz W
    refine EW.seq ?_
    refine EW.seq ?_
    refine EW.region ?_
    first | refine WL.move rfl rfl rfl ?_
    refine WL.bin rfl rfl rfl rfl (int_lt_d _ _ _ _ _) ?_
    refine WL.done ?_
    refine EW.on ?_
    refine EW.cond_d rfl (fun h26 => ?_) (fun h26 => ?_)
    · refine EW.skip ?_
      refine EW.on ?_
      refine EW.seq ?_
      refine EW.block ?_
      refine EW.seq ?_
      refine EW.seq ?_
      rcases (show (0 : Int) < ((5 * n : Nat) : Int) ∨ ¬ (0 : Int) < ((5 * n : Nat) : Int) by omega) with g1 | g1
      · refine EW.region ?_
        first | refine WL.move rfl rfl rfl ?_
        first | refine WL.bin rfl rfl rfl rfl (int_gt_t g1 _ _ _) ?_ | refine WL.bin rfl rfl rfl rfl (int_gt_f g1 _ _ _) ?_
        refine WL.done ?_
        refine EW.on ?_
        refine EW.cond_t rfl ?_
        refine EW.region ?_
        first | refine WL.move rfl rfl rfl ?_
        refine WL.bin rfl rfl rfl rfl (str_cat _ [32] (by rw [nG_len hdl n (by omega)]; simp; omega) _ _ _) ?_
        first | refine WL.assign rfl rfl rfl ?_
        refine WL.done ?_
        refine EW.on ?_
        refine EW.region ?_
        first | refine WL.move rfl rfl rfl ?_
        first | refine WL.move rfl rfl rfl ?_
        first | refine WL.move rfl rfl rfl ?_
        first | refine WL.move rfl rfl rfl ?_
        refine WL.bin rfl rfl rfl rfl (int_add (c := ((5 * n + 5 : Nat) : Int)) (by rw [IntKind.wrap_i64]; omega) _ _ _) ?_
        refine WL.slice2 rfl rfl rfl rfl rfl (cut_s d (5 * n) (5 * n + 5) (by omega) (by omega) _) ?_
        rw [grp_cut]
        refine WL.bin rfl rfl rfl rfl (str_cat (nG d n ++ [32]) (grp d n) (by rw [List.length_append]; rw [nG_len hdl n (by omega), grp_len hdl (by omega)]; simp; omega) _ _ _) ?_
        first | refine WL.assign rfl rfl rfl ?_
        refine WL.done ?_
        refine pn_block ?_
        refine EW.on ?_
        refine EW.region ?_
        first | refine WL.move rfl rfl rfl ?_
        refine WL.bin rfl rfl rfl rfl (int_add (c := ((5 * (n + 1) : Nat) : Int)) (by rw [IntKind.wrap_i64]; omega) _ _ _) ?_
        first | refine WL.assign rfl rfl rfl ?_
        refine WL.done ?_
        exact EW.again (E := nbE d) (R := fun n W => n ≤ 12 ∧ W = w3) (m := fun n => 12 - n) (x := n) (n + 1) [10, 12, 13] (by unfold nbE; rw [nG, if_pos (by omega), ← List.append_assoc]; rfl) ⟨by omega, rfl⟩ (by show 12 - (n + 1) < 12 - n; omega)
      · refine EW.region ?_
        first | refine WL.move rfl rfl rfl ?_
        first | refine WL.bin rfl rfl rfl rfl (int_gt_t g1 _ _ _) ?_ | refine WL.bin rfl rfl rfl rfl (int_gt_f g1 _ _ _) ?_
        refine WL.done ?_
        refine EW.on ?_
        refine EW.cond_f rfl ?_
        refine EW.skip ?_
        refine EW.on ?_
        refine EW.region ?_
        first | refine WL.move rfl rfl rfl ?_
        first | refine WL.move rfl rfl rfl ?_
        first | refine WL.move rfl rfl rfl ?_
        first | refine WL.move rfl rfl rfl ?_
        refine WL.bin rfl rfl rfl rfl (int_add (c := ((5 * n + 5 : Nat) : Int)) (by rw [IntKind.wrap_i64]; omega) _ _ _) ?_
        refine WL.slice2 rfl rfl rfl rfl rfl (cut_s d (5 * n) (5 * n + 5) (by omega) (by omega) _) ?_
        rw [grp_cut]
        refine WL.bin rfl rfl rfl rfl (str_cat (nG d n) (grp d n) (by rw [nG_len hdl n (by omega), grp_len hdl (by omega)]; simp; omega) _ _ _) ?_
        first | refine WL.assign rfl rfl rfl ?_
        refine WL.done ?_
        refine pn_block ?_
        refine EW.on ?_
        refine EW.region ?_
        first | refine WL.move rfl rfl rfl ?_
        refine WL.bin rfl rfl rfl rfl (int_add (c := ((5 * (n + 1) : Nat) : Int)) (by rw [IntKind.wrap_i64]; omega) _ _ _) ?_
        first | refine WL.assign rfl rfl rfl ?_
        refine WL.done ?_
        exact EW.again (E := nbE d) (R := fun n W => n ≤ 12 ∧ W = w3) (m := fun n => 12 - n) (x := n) (n + 1) [10, 12, 13] (by unfold nbE; rw [nG, if_neg (by omega), List.nil_append]; rfl) ⟨by omega, rfl⟩ (by show 12 - (n + 1) < 12 - n; omega)
    · refine EW.exit ?_
      refine px_then ?_
      refine px_then ?_
      refine px_block ?_
      refine EW.on ?_
      refine EW.seq ?_
      have h12 : n = 12 := by omega
      refine EW.region ?_
      first | refine WL.move rfl rfl rfl ?_
      first | refine WL.assign rfl rfl rfl ?_
      first | refine WL.assign rfl rfl rfl ?_
      refine WL.done ?_
      refine EW.on ?_
      refine EW.ret ?_
      exact EW.returns2 Tryd.results28 rfl rfl ⟨by unfold numD; rw [if_pos h23, hd, h23, h12], bt (bt l1 l2) l3⟩
def rrE (l : List UInt8) (x : Nat × Value) : List (Nat × Value) := [(0, sv l), (4, x.2), (5, .int .i64 (x.1 : Int))]
theorem dgt_le (l : List UInt8) (n : Nat) : (dgt (l.take n)).length ≤ l.length := Nat.le_trans (dgt_take l n) (List.length_filter_le isD l)
set_option maxRecDepth 100000 in
set_option maxHeartbeats 4000000 in
theorem rread_any (l : List UInt8) (hl : l.length ≤ 140737488355328) (w : World) : Calls Tryd.prog 29 #[sv l] w fun e w' => e = .returned (.tuple #[sv (rd l), .int .i64 (rdE l)]) ∧ Below w.heap.size w w' := by
  refine calls_of_args [sv l] Tryd.func29 rfl 45 Tryd.ntmps29 (by show 1 ≤ 45; decide) ?_
  refine EW.seq ?_
  refine EW.region ?_
  first | refine WL.assign rfl rfl rfl ?_
  first | refine WL.assign rfl rfl rfl ?_
  refine WL.done ?_
  refine EW.on ?_
  refine EW.seq ?_
  refine EW.region ?_
  first | refine WL.assign rfl rfl rfl ?_
  refine WL.done ?_
  refine EW.on ?_
  refine EW.seq ?_
  refine EW.seq ?_
  refine EW.region ?_
  first | refine WL.assign rfl rfl rfl ?_
  refine WL.done ?_
  refine EW.on ?_
  refine EW.block ?_
  refine EW.loop (rrE l) (fun x W => x.1 ≤ l.length ∧ Own W w.heap.size x.2 (dgt (l.take x.1)) ∧ okT (l.take x.1) = true ∧ Below w.heap.size w W) (fun x => l.length - x.1) (0, .slice none 0 0) [0, 4, 5] rfl ⟨Nat.zero_le _, Own.nil _ _, rfl, Below.refl _ _⟩ ?_
  rintro x W ⟨hx, hO, hok, hb⟩
  refine EW.seq ?_
  refine EW.seq ?_
  refine EW.region ?_
  first | refine WL.move rfl rfl rfl ?_
  first | refine WL.move rfl rfl rfl ?_
  refine WL.len rfl rfl rfl (len_s _ _ _) ?_
  refine WL.bin rfl rfl rfl rfl (int_lt_d _ _ _ _ _) ?_
  refine WL.done ?_
  refine EW.on ?_
  refine EW.cond_d rfl (fun h10 => ?_) (fun h10 => ?_)
  · refine EW.skip ?_
    refine EW.on ?_
    refine EW.seq ?_
    refine EW.block ?_
    refine EW.seq ?_
    obtain ⟨b, hb0⟩ : ∃ b, l[x.1]? = some b := ⟨_, List.getElem?_eq_getElem (by omega)⟩
    refine EW.region ?_
    first | refine WL.move rfl rfl rfl ?_
    first | refine WL.move rfl rfl rfl ?_
    refine WL.idx rfl rfl rfl rfl (idx_s l x.1 b hb0 _) ?_
    first | refine WL.assign rfl rfl rfl ?_
    refine WL.done ?_
    refine EW.on ?_
    refine EW.seq ?_
    rcases (show ((48 : Int) ≤ (b.toNat : Int) ∧ (b.toNat : Int) ≤ 57) ∨ ¬ (48 : Int) ≤ (b.toNat : Int) ∨ ((48 : Int) ≤ (b.toNat : Int) ∧ ¬ (b.toNat : Int) ≤ 57) by omega) with ⟨g1, g2⟩ | g1 | ⟨g1, g2⟩
    · refine EW.region ?_
      first | refine WL.move rfl rfl rfl ?_
      first | refine WL.bin rfl rfl rfl rfl (u8_ge_t ‹_› _ _ _) ?_ | refine WL.bin rfl rfl rfl rfl (u8_ge_f ‹_› _ _ _) ?_
      first | refine WL.move rfl rfl rfl ?_
      first | refine WL.move rfl rfl rfl ?_ | refine WL.skip _ rfl rfl rfl ?_
      first | refine WL.bin rfl rfl rfl rfl (u8_le_t ‹_› _ _ _) ?_ | refine WL.bin rfl rfl rfl rfl (u8_le_f ‹_› _ _ _) ?_ | refine WL.skip _ rfl rfl rfl ?_
      first | refine WL.pick rfl rfl rfl rfl ?_
      refine WL.done ?_
      refine EW.on ?_
      refine EW.cond_t rfl ?_
      have hbD : isD b = true := decide_eq_true (by omega)
      refine EW.region ?_
      first | refine WL.move rfl rfl rfl ?_
      first | refine WL.move rfl rfl rfl ?_
      obtain ⟨s1, W2, v2, W3, p1, p2, o2, lb2, _⟩ := hO.push b (by have := dgt_le l x.1; omega) hb.size 27
      refine WL.bslN [(0, byt b)] rfl rfl rfl p1 ?_
      refine WL.app rfl rfl rfl rfl p2 ?_
      first | refine WL.assign rfl rfl rfl ?_
      refine WL.done ?_
      refine pn_block ?_
      refine EW.on ?_
      refine EW.region ?_
      first | refine WL.move rfl rfl rfl ?_
      refine WL.bin rfl rfl rfl rfl (int_add (c := ((x.1 + 1 : Nat) : Int)) (by rw [IntKind.wrap_i64]; omega) _ _ _) ?_
      first | refine WL.assign rfl rfl rfl ?_
      refine WL.done ?_
      exact EW.again (E := rrE l) (R := fun x W => x.1 ≤ l.length ∧ Own W w.heap.size x.2 (dgt (l.take x.1)) ∧ okT (l.take x.1) = true ∧ Below w.heap.size w W) (m := fun x => l.length - x.1) (x := x) (x.1 + 1, v2) [0, 4, 5] rfl ⟨by show x.1 + 1 ≤ _; omega, by show Own W3 _ v2 (dgt (l.take (x.1 + 1))); rw [take_succ' hb0, (snoc_D hbD).1]; exact o2, by show okT (l.take (x.1 + 1)) = true; rw [take_succ' hb0]; exact (snoc_D hbD).2 hok, hb.trans lb2⟩ (by show l.length - (x.1 + 1) < l.length - x.1; omega)
    · refine EW.region ?_
      first | refine WL.move rfl rfl rfl ?_
      first | refine WL.bin rfl rfl rfl rfl (u8_ge_t ‹_› _ _ _) ?_ | refine WL.bin rfl rfl rfl rfl (u8_ge_f ‹_› _ _ _) ?_
      first | refine WL.move rfl rfl rfl ?_
      first | refine WL.move rfl rfl rfl ?_ | refine WL.skip _ rfl rfl rfl ?_
      first | refine WL.bin rfl rfl rfl rfl (u8_le_t ‹_› _ _ _) ?_ | refine WL.bin rfl rfl rfl rfl (u8_le_f ‹_› _ _ _) ?_ | refine WL.skip _ rfl rfl rfl ?_
      first | refine WL.pick rfl rfl rfl rfl ?_
      refine WL.done ?_
      refine EW.on ?_
      refine EW.cond_f rfl ?_
      refine EW.seq ?_
      rcases (show (b.toNat : Int) = 32 ∨ (¬ (b.toNat : Int) = 32 ∧ (b.toNat : Int) = 9) ∨ (¬ (b.toNat : Int) = 32 ∧ ¬ (b.toNat : Int) = 9 ∧ (b.toNat : Int) = 10) ∨ (¬ (b.toNat : Int) = 32 ∧ ¬ (b.toNat : Int) = 9 ∧ ¬ (b.toNat : Int) = 10 ∧ (b.toNat : Int) = 45) ∨ (¬ (b.toNat : Int) = 32 ∧ ¬ (b.toNat : Int) = 9 ∧ ¬ (b.toNat : Int) = 10 ∧ ¬ (b.toNat : Int) = 45) by omega) with m32 | ⟨m32, m9⟩ | ⟨m32, m9, m10⟩ | ⟨m32, m9, m10, m45⟩ | ⟨m32, m9, m10, m45⟩
      · have n32 : ¬ ¬ (b.toNat : Int) = 32 := fun h => h m32
        have hbP : isP b = true := decide_eq_true (by unfold SepN; omega)
        refine EW.region ?_
        first | refine WL.move rfl rfl rfl ?_
        first | refine WL.bin rfl rfl rfl rfl (u8_ne_t n32 _ _ _) ?_ | refine WL.bin rfl rfl rfl rfl (u8_ne_f n32 _ _ _) ?_
        first | refine WL.move rfl rfl rfl ?_
        first | refine WL.move rfl rfl rfl ?_ | refine WL.skip _ rfl rfl rfl ?_
        first | refine WL.bin rfl rfl rfl rfl (u8_ne_t n9 _ _ _) ?_ | refine WL.bin rfl rfl rfl rfl (u8_ne_f n9 _ _ _) ?_ | refine WL.skip _ rfl rfl rfl ?_
        first | refine WL.pick rfl rfl rfl rfl ?_
        first | refine WL.move rfl rfl rfl ?_
        first | refine WL.move rfl rfl rfl ?_ | refine WL.skip _ rfl rfl rfl ?_
        first | refine WL.bin rfl rfl rfl rfl (u8_ne_t n10 _ _ _) ?_ | refine WL.bin rfl rfl rfl rfl (u8_ne_f n10 _ _ _) ?_ | refine WL.skip _ rfl rfl rfl ?_
        first | refine WL.pick rfl rfl rfl rfl ?_
        first | refine WL.move rfl rfl rfl ?_
        first | refine WL.move rfl rfl rfl ?_ | refine WL.skip _ rfl rfl rfl ?_
        first | refine WL.bin rfl rfl rfl rfl (u8_ne_t n45 _ _ _) ?_ | refine WL.bin rfl rfl rfl rfl (u8_ne_f n45 _ _ _) ?_ | refine WL.skip _ rfl rfl rfl ?_
        first | refine WL.pick rfl rfl rfl rfl ?_
        refine WL.done ?_
        refine EW.on ?_
        refine EW.cond_f rfl ?_
        refine EW.skip ?_
        refine pn_block ?_
        refine EW.on ?_
        refine EW.region ?_
        first | refine WL.move rfl rfl rfl ?_
        refine WL.bin rfl rfl rfl rfl (int_add (c := ((x.1 + 1 : Nat) : Int)) (by rw [IntKind.wrap_i64]; omega) _ _ _) ?_
        first | refine WL.assign rfl rfl rfl ?_
        refine WL.done ?_
        exact EW.again (E := rrE l) (R := fun x W => x.1 ≤ l.length ∧ Own W w.heap.size x.2 (dgt (l.take x.1)) ∧ okT (l.take x.1) = true ∧ Below w.heap.size w W) (m := fun x => l.length - x.1) (x := x) (x.1 + 1, x.2) [0, 4, 5] rfl ⟨by show x.1 + 1 ≤ _; omega, by show Own W _ x.2 (dgt (l.take (x.1 + 1))); rw [take_succ' hb0, (snoc_P hbP).1]; exact hO, by show okT (l.take (x.1 + 1)) = true; rw [take_succ' hb0]; exact (snoc_P hbP).2 hok, hb⟩ (by show l.length - (x.1 + 1) < l.length - x.1; omega)
      · have n32 : ¬ (b.toNat : Int) = 32 := m32
        have n9 : ¬ ¬ (b.toNat : Int) = 9 := fun h => h m9
        have hbP : isP b = true := decide_eq_true (by unfold SepN; omega)
        refine EW.region ?_
        first | refine WL.move rfl rfl rfl ?_
        first | refine WL.bin rfl rfl rfl rfl (u8_ne_t n32 _ _ _) ?_ | refine WL.bin rfl rfl rfl rfl (u8_ne_f n32 _ _ _) ?_
        first | refine WL.move rfl rfl rfl ?_
        first | refine WL.move rfl rfl rfl ?_ | refine WL.skip _ rfl rfl rfl ?_
        first | refine WL.bin rfl rfl rfl rfl (u8_ne_t n9 _ _ _) ?_ | refine WL.bin rfl rfl rfl rfl (u8_ne_f n9 _ _ _) ?_ | refine WL.skip _ rfl rfl rfl ?_
        first | refine WL.pick rfl rfl rfl rfl ?_
        first | refine WL.move rfl rfl rfl ?_
        first | refine WL.move rfl rfl rfl ?_ | refine WL.skip _ rfl rfl rfl ?_
        first | refine WL.bin rfl rfl rfl rfl (u8_ne_t n10 _ _ _) ?_ | refine WL.bin rfl rfl rfl rfl (u8_ne_f n10 _ _ _) ?_ | refine WL.skip _ rfl rfl rfl ?_
        first | refine WL.pick rfl rfl rfl rfl ?_
        first | refine WL.move rfl rfl rfl ?_
        first | refine WL.move rfl rfl rfl ?_ | refine WL.skip _ rfl rfl rfl ?_
        first | refine WL.bin rfl rfl rfl rfl (u8_ne_t n45 _ _ _) ?_ | refine WL.bin rfl rfl rfl rfl (u8_ne_f n45 _ _ _) ?_ | refine WL.skip _ rfl rfl rfl ?_
        first | refine WL.pick rfl rfl rfl rfl ?_
        refine WL.done ?_
        refine EW.on ?_
        refine EW.cond_f rfl ?_
        refine EW.skip ?_
        refine pn_block ?_
        refine EW.on ?_
        refine EW.region ?_
        first | refine WL.move rfl rfl rfl ?_
        refine WL.bin rfl rfl rfl rfl (int_add (c := ((x.1 + 1 : Nat) : Int)) (by rw [IntKind.wrap_i64]; omega) _ _ _) ?_
        first | refine WL.assign rfl rfl rfl ?_
        refine WL.done ?_
        exact EW.again (E := rrE l) (R := fun x W => x.1 ≤ l.length ∧ Own W w.heap.size x.2 (dgt (l.take x.1)) ∧ okT (l.take x.1) = true ∧ Below w.heap.size w W) (m := fun x => l.length - x.1) (x := x) (x.1 + 1, x.2) [0, 4, 5] rfl ⟨by show x.1 + 1 ≤ _; omega, by show Own W _ x.2 (dgt (l.take (x.1 + 1))); rw [take_succ' hb0, (snoc_P hbP).1]; exact hO, by show okT (l.take (x.1 + 1)) = true; rw [take_succ' hb0]; exact (snoc_P hbP).2 hok, hb⟩ (by show l.length - (x.1 + 1) < l.length - x.1; omega)
      · have n32 : ¬ (b.toNat : Int) = 32 := m32
        have n9 : ¬ (b.toNat : Int) = 9 := m9
        have n10 : ¬ ¬ (b.toNat : Int) = 10 := fun h => h m10
        have hbP : isP b = true := decide_eq_true (by unfold SepN; omega)
        refine EW.region ?_
        first | refine WL.move rfl rfl rfl ?_
        first | refine WL.bin rfl rfl rfl rfl (u8_ne_t n32 _ _ _) ?_ | refine WL.bin rfl rfl rfl rfl (u8_ne_f n32 _ _ _) ?_
        first | refine WL.move rfl rfl rfl ?_
        first | refine WL.move rfl rfl rfl ?_ | refine WL.skip _ rfl rfl rfl ?_
        first | refine WL.bin rfl rfl rfl rfl (u8_ne_t n9 _ _ _) ?_ | refine WL.bin rfl rfl rfl rfl (u8_ne_f n9 _ _ _) ?_ | refine WL.skip _ rfl rfl rfl ?_
        first | refine WL.pick rfl rfl rfl rfl ?_
        first | refine WL.move rfl rfl rfl ?_
        first | refine WL.move rfl rfl rfl ?_ | refine WL.skip _ rfl rfl rfl ?_
        first | refine WL.bin rfl rfl rfl rfl (u8_ne_t n10 _ _ _) ?_ | refine WL.bin rfl rfl rfl rfl (u8_ne_f n10 _ _ _) ?_ | refine WL.skip _ rfl rfl rfl ?_
        first | refine WL.pick rfl rfl rfl rfl ?_
        first | refine WL.move rfl rfl rfl ?_
        first | refine WL.move rfl rfl rfl ?_ | refine WL.skip _ rfl rfl rfl ?_
        first | refine WL.bin rfl rfl rfl rfl (u8_ne_t n45 _ _ _) ?_ | refine WL.bin rfl rfl rfl rfl (u8_ne_f n45 _ _ _) ?_ | refine WL.skip _ rfl rfl rfl ?_
        first | refine WL.pick rfl rfl rfl rfl ?_
        refine WL.done ?_
        refine EW.on ?_
        refine EW.cond_f rfl ?_
        refine EW.skip ?_
        refine pn_block ?_
        refine EW.on ?_
        refine EW.region ?_
        first | refine WL.move rfl rfl rfl ?_
        refine WL.bin rfl rfl rfl rfl (int_add (c := ((x.1 + 1 : Nat) : Int)) (by rw [IntKind.wrap_i64]; omega) _ _ _) ?_
        first | refine WL.assign rfl rfl rfl ?_
        refine WL.done ?_
        exact EW.again (E := rrE l) (R := fun x W => x.1 ≤ l.length ∧ Own W w.heap.size x.2 (dgt (l.take x.1)) ∧ okT (l.take x.1) = true ∧ Below w.heap.size w W) (m := fun x => l.length - x.1) (x := x) (x.1 + 1, x.2) [0, 4, 5] rfl ⟨by show x.1 + 1 ≤ _; omega, by show Own W _ x.2 (dgt (l.take (x.1 + 1))); rw [take_succ' hb0, (snoc_P hbP).1]; exact hO, by show okT (l.take (x.1 + 1)) = true; rw [take_succ' hb0]; exact (snoc_P hbP).2 hok, hb⟩ (by show l.length - (x.1 + 1) < l.length - x.1; omega)
      · have n32 : ¬ (b.toNat : Int) = 32 := m32
        have n9 : ¬ (b.toNat : Int) = 9 := m9
        have n10 : ¬ (b.toNat : Int) = 10 := m10
        have n45 : ¬ ¬ (b.toNat : Int) = 45 := fun h => h m45
        have hbP : isP b = true := decide_eq_true (by unfold SepN; omega)
        refine EW.region ?_
        first | refine WL.move rfl rfl rfl ?_
        first | refine WL.bin rfl rfl rfl rfl (u8_ne_t n32 _ _ _) ?_ | refine WL.bin rfl rfl rfl rfl (u8_ne_f n32 _ _ _) ?_
        first | refine WL.move rfl rfl rfl ?_
        first | refine WL.move rfl rfl rfl ?_ | refine WL.skip _ rfl rfl rfl ?_
        first | refine WL.bin rfl rfl rfl rfl (u8_ne_t n9 _ _ _) ?_ | refine WL.bin rfl rfl rfl rfl (u8_ne_f n9 _ _ _) ?_ | refine WL.skip _ rfl rfl rfl ?_
        first | refine WL.pick rfl rfl rfl rfl ?_
        first | refine WL.move rfl rfl rfl ?_
        first | refine WL.move rfl rfl rfl ?_ | refine WL.skip _ rfl rfl rfl ?_
        first | refine WL.bin rfl rfl rfl rfl (u8_ne_t n10 _ _ _) ?_ | refine WL.bin rfl rfl rfl rfl (u8_ne_f n10 _ _ _) ?_ | refine WL.skip _ rfl rfl rfl ?_
        first | refine WL.pick rfl rfl rfl rfl ?_
        first | refine WL.move rfl rfl rfl ?_
        first | refine WL.move rfl rfl rfl ?_ | refine WL.skip _ rfl rfl rfl ?_
        first | refine WL.bin rfl rfl rfl rfl (u8_ne_t n45 _ _ _) ?_ | refine WL.bin rfl rfl rfl rfl (u8_ne_f n45 _ _ _) ?_ | refine WL.skip _ rfl rfl rfl ?_
        first | refine WL.pick rfl rfl rfl rfl ?_
        refine WL.done ?_
        refine EW.on ?_
        refine EW.cond_f rfl ?_
        refine EW.skip ?_
        refine pn_block ?_
        refine EW.on ?_
        refine EW.region ?_
        first | refine WL.move rfl rfl rfl ?_
        refine WL.bin rfl rfl rfl rfl (int_add (c := ((x.1 + 1 : Nat) : Int)) (by rw [IntKind.wrap_i64]; omega) _ _ _) ?_
        first | refine WL.assign rfl rfl rfl ?_
        refine WL.done ?_
        exact EW.again (E := rrE l) (R := fun x W => x.1 ≤ l.length ∧ Own W w.heap.size x.2 (dgt (l.take x.1)) ∧ okT (l.take x.1) = true ∧ Below w.heap.size w W) (m := fun x => l.length - x.1) (x := x) (x.1 + 1, x.2) [0, 4, 5] rfl ⟨by show x.1 + 1 ≤ _; omega, by show Own W _ x.2 (dgt (l.take (x.1 + 1))); rw [take_succ' hb0, (snoc_P hbP).1]; exact hO, by show okT (l.take (x.1 + 1)) = true; rw [take_succ' hb0]; exact (snoc_P hbP).2 hok, hb⟩ (by show l.length - (x.1 + 1) < l.length - x.1; omega)
      · have n32 : ¬ (b.toNat : Int) = 32 := m32
        have n9 : ¬ (b.toNat : Int) = 9 := m9
        have n10 : ¬ (b.toNat : Int) = 10 := m10
        have n45 : ¬ (b.toNat : Int) = 45 := m45
        have hbad : (isP b || isD b) = false := by unfold isP isD; simp only [Bool.or_eq_false_iff, decide_eq_false_iff_not]; exact ⟨fun e => by unfold SepN at e; omega, by omega⟩
        refine EW.region ?_
        first | refine WL.move rfl rfl rfl ?_
        first | refine WL.bin rfl rfl rfl rfl (u8_ne_t n32 _ _ _) ?_ | refine WL.bin rfl rfl rfl rfl (u8_ne_f n32 _ _ _) ?_
        first | refine WL.move rfl rfl rfl ?_
        first | refine WL.move rfl rfl rfl ?_ | refine WL.skip _ rfl rfl rfl ?_
        first | refine WL.bin rfl rfl rfl rfl (u8_ne_t n9 _ _ _) ?_ | refine WL.bin rfl rfl rfl rfl (u8_ne_f n9 _ _ _) ?_ | refine WL.skip _ rfl rfl rfl ?_
        first | refine WL.pick rfl rfl rfl rfl ?_
        first | refine WL.move rfl rfl rfl ?_
        first | refine WL.move rfl rfl rfl ?_ | refine WL.skip _ rfl rfl rfl ?_
        first | refine WL.bin rfl rfl rfl rfl (u8_ne_t n10 _ _ _) ?_ | refine WL.bin rfl rfl rfl rfl (u8_ne_f n10 _ _ _) ?_ | refine WL.skip _ rfl rfl rfl ?_
        first | refine WL.pick rfl rfl rfl rfl ?_
        first | refine WL.move rfl rfl rfl ?_
        first | refine WL.move rfl rfl rfl ?_ | refine WL.skip _ rfl rfl rfl ?_
        first | refine WL.bin rfl rfl rfl rfl (u8_ne_t n45 _ _ _) ?_ | refine WL.bin rfl rfl rfl rfl (u8_ne_f n45 _ _ _) ?_ | refine WL.skip _ rfl rfl rfl ?_
        first | refine WL.pick rfl rfl rfl rfl ?_
        refine WL.done ?_
        refine EW.on ?_
        refine EW.cond_t rfl ?_
        refine EW.seq ?_
        refine EW.region ?_
        first | refine WL.assign rfl rfl rfl ?_
        first | refine WL.assign rfl rfl rfl ?_
        refine WL.done ?_
        refine EW.on ?_
        refine EW.ret ?_
        refine pr_block ?_
        refine pr_then ?_
        refine pr_then ?_
        refine pr_block ?_
        refine pr_then ?_
        exact EW.returns2 Tryd.results29 rfl rfl ⟨by rw [(rd_no (no_of_bad hb0 hbad)).1, (rd_no (no_of_bad hb0 hbad)).2]; rfl, hb⟩
    · refine EW.region ?_
      first | refine WL.move rfl rfl rfl ?_
      first | refine WL.bin rfl rfl rfl rfl (u8_ge_t ‹_› _ _ _) ?_ | refine WL.bin rfl rfl rfl rfl (u8_ge_f ‹_› _ _ _) ?_
      first | refine WL.move rfl rfl rfl ?_
      first | refine WL.move rfl rfl rfl ?_ | refine WL.skip _ rfl rfl rfl ?_
      first | refine WL.bin rfl rfl rfl rfl (u8_le_t ‹_› _ _ _) ?_ | refine WL.bin rfl rfl rfl rfl (u8_le_f ‹_› _ _ _) ?_ | refine WL.skip _ rfl rfl rfl ?_
      first | refine WL.pick rfl rfl rfl rfl ?_
      refine WL.done ?_
      refine EW.on ?_
      refine EW.cond_f rfl ?_
      refine EW.seq ?_
      rcases (show (b.toNat : Int) = 32 ∨ (¬ (b.toNat : Int) = 32 ∧ (b.toNat : Int) = 9) ∨ (¬ (b.toNat : Int) = 32 ∧ ¬ (b.toNat : Int) = 9 ∧ (b.toNat : Int) = 10) ∨ (¬ (b.toNat : Int) = 32 ∧ ¬ (b.toNat : Int) = 9 ∧ ¬ (b.toNat : Int) = 10 ∧ (b.toNat : Int) = 45) ∨ (¬ (b.toNat : Int) = 32 ∧ ¬ (b.toNat : Int) = 9 ∧ ¬ (b.toNat : Int) = 10 ∧ ¬ (b.toNat : Int) = 45) by omega) with m32 | ⟨m32, m9⟩ | ⟨m32, m9, m10⟩ | ⟨m32, m9, m10, m45⟩ | ⟨m32, m9, m10, m45⟩
      · have n32 : ¬ ¬ (b.toNat : Int) = 32 := fun h => h m32
        have hbP : isP b = true := decide_eq_true (by unfold SepN; omega)
        refine EW.region ?_
        first | refine WL.move rfl rfl rfl ?_
        first | refine WL.bin rfl rfl rfl rfl (u8_ne_t n32 _ _ _) ?_ | refine WL.bin rfl rfl rfl rfl (u8_ne_f n32 _ _ _) ?_
        first | refine WL.move rfl rfl rfl ?_
        first | refine WL.move rfl rfl rfl ?_ | refine WL.skip _ rfl rfl rfl ?_
        first | refine WL.bin rfl rfl rfl rfl (u8_ne_t n9 _ _ _) ?_ | refine WL.bin rfl rfl rfl rfl (u8_ne_f n9 _ _ _) ?_ | refine WL.skip _ rfl rfl rfl ?_
        first | refine WL.pick rfl rfl rfl rfl ?_
        first | refine WL.move rfl rfl rfl ?_
        first | refine WL.move rfl rfl rfl ?_ | refine WL.skip _ rfl rfl rfl ?_
        first | refine WL.bin rfl rfl rfl rfl (u8_ne_t n10 _ _ _) ?_ | refine WL.bin rfl rfl rfl rfl (u8_ne_f n10 _ _ _) ?_ | refine WL.skip _ rfl rfl rfl ?_
        first | refine WL.pick rfl rfl rfl rfl ?_
        first | refine WL.move rfl rfl rfl ?_
        first | refine WL.move rfl rfl rfl ?_ | refine WL.skip _ rfl rfl rfl ?_
        first | refine WL.bin rfl rfl rfl rfl (u8_ne_t n45 _ _ _) ?_ | refine WL.bin rfl rfl rfl rfl (u8_ne_f n45 _ _ _) ?_ | refine WL.skip _ rfl rfl rfl ?_
        first | refine WL.pick rfl rfl rfl rfl ?_
        refine WL.done ?_
        refine EW.on ?_
        refine EW.cond_f rfl ?_
        refine EW.skip ?_
        refine pn_block ?_
        refine EW.on ?_
        refine EW.region ?_
        first | refine WL.move rfl rfl rfl ?_
        refine WL.bin rfl rfl rfl rfl (int_add (c := ((x.1 + 1 : Nat) : Int)) (by rw [IntKind.wrap_i64]; omega) _ _ _) ?_
        first | refine WL.assign rfl rfl rfl ?_
        refine WL.done ?_
        exact EW.again (E := rrE l) (R := fun x W => x.1 ≤ l.length ∧ Own W w.heap.size x.2 (dgt (l.take x.1)) ∧ okT (l.take x.1) = true ∧ Below w.heap.size w W) (m := fun x => l.length - x.1) (x := x) (x.1 + 1, x.2) [0, 4, 5] rfl ⟨by show x.1 + 1 ≤ _; omega, by show Own W _ x.2 (dgt (l.take (x.1 + 1))); rw [take_succ' hb0, (snoc_P hbP).1]; exact hO, by show okT (l.take (x.1 + 1)) = true; rw [take_succ' hb0]; exact (snoc_P hbP).2 hok, hb⟩ (by show l.length - (x.1 + 1) < l.length - x.1; omega)
      · have n32 : ¬ (b.toNat : Int) = 32 := m32
        have n9 : ¬ ¬ (b.toNat : Int) = 9 := fun h => h m9
        have hbP : isP b = true := decide_eq_true (by unfold SepN; omega)
        refine EW.region ?_
        first | refine WL.move rfl rfl rfl ?_
        first | refine WL.bin rfl rfl rfl rfl (u8_ne_t n32 _ _ _) ?_ | refine WL.bin rfl rfl rfl rfl (u8_ne_f n32 _ _ _) ?_
        first | refine WL.move rfl rfl rfl ?_
        first | refine WL.move rfl rfl rfl ?_ | refine WL.skip _ rfl rfl rfl ?_
        first | refine WL.bin rfl rfl rfl rfl (u8_ne_t n9 _ _ _) ?_ | refine WL.bin rfl rfl rfl rfl (u8_ne_f n9 _ _ _) ?_ | refine WL.skip _ rfl rfl rfl ?_
        first | refine WL.pick rfl rfl rfl rfl ?_
        first | refine WL.move rfl rfl rfl ?_
        first | refine WL.move rfl rfl rfl ?_ | refine WL.skip _ rfl rfl rfl ?_
        first | refine WL.bin rfl rfl rfl rfl (u8_ne_t n10 _ _ _) ?_ | refine WL.bin rfl rfl rfl rfl (u8_ne_f n10 _ _ _) ?_ | refine WL.skip _ rfl rfl rfl ?_
        first | refine WL.pick rfl rfl rfl rfl ?_
        first | refine WL.move rfl rfl rfl ?_
        first | refine WL.move rfl rfl rfl ?_ | refine WL.skip _ rfl rfl rfl ?_
        first | refine WL.bin rfl rfl rfl rfl (u8_ne_t n45 _ _ _) ?_ | refine WL.bin rfl rfl rfl rfl (u8_ne_f n45 _ _ _) ?_ | refine WL.skip _ rfl rfl rfl ?_
        first | refine WL.pick rfl rfl rfl rfl ?_
        refine WL.done ?_
        refine EW.on ?_
        refine EW.cond_f rfl ?_
        refine EW.skip ?_
        refine pn_block ?_
        refine EW.on ?_
        refine EW.region ?_
        first | refine WL.move rfl rfl rfl ?_
        refine WL.bin rfl rfl rfl rfl (int_add (c := ((x.1 + 1 : Nat) : Int)) (by rw [IntKind.wrap_i64]; omega) _ _ _) ?_
        first | refine WL.assign rfl rfl rfl ?_
        refine WL.done ?_
        exact EW.again (E := rrE l) (R := fun x W => x.1 ≤ l.length ∧ Own W w.heap.size x.2 (dgt (l.take x.1)) ∧ okT (l.take x.1) = true ∧ Below w.heap.size w W) (m := fun x => l.length - x.1) (x := x) (x.1 + 1, x.2) [0, 4, 5] rfl ⟨by show x.1 + 1 ≤ _; omega, by show Own W _ x.2 (dgt (l.take (x.1 + 1))); rw [take_succ' hb0, (snoc_P hbP).1]; exact hO, by show okT (l.take (x.1 + 1)) = true; rw [take_succ' hb0]; exact (snoc_P hbP).2 hok, hb⟩ (by show l.length - (x.1 + 1) < l.length - x.1; omega)
      · have n32 : ¬ (b.toNat : Int) = 32 := m32
        have n9 : ¬ (b.toNat : Int) = 9 := m9
        have n10 : ¬ ¬ (b.toNat : Int) = 10 := fun h => h m10
        have hbP : isP b = true := decide_eq_true (by unfold SepN; omega)
        refine EW.region ?_
        first | refine WL.move rfl rfl rfl ?_
        first | refine WL.bin rfl rfl rfl rfl (u8_ne_t n32 _ _ _) ?_ | refine WL.bin rfl rfl rfl rfl (u8_ne_f n32 _ _ _) ?_
        first | refine WL.move rfl rfl rfl ?_
        first | refine WL.move rfl rfl rfl ?_ | refine WL.skip _ rfl rfl rfl ?_
        first | refine WL.bin rfl rfl rfl rfl (u8_ne_t n9 _ _ _) ?_ | refine WL.bin rfl rfl rfl rfl (u8_ne_f n9 _ _ _) ?_ | refine WL.skip _ rfl rfl rfl ?_
        first | refine WL.pick rfl rfl rfl rfl ?_
        first | refine WL.move rfl rfl rfl ?_
        first | refine WL.move rfl rfl rfl ?_ | refine WL.skip _ rfl rfl rfl ?_
        first | refine WL.bin rfl rfl rfl rfl (u8_ne_t n10 _ _ _) ?_ | refine WL.bin rfl rfl rfl rfl (u8_ne_f n10 _ _ _) ?_ | refine WL.skip _ rfl rfl rfl ?_
        first | refine WL.pick rfl rfl rfl rfl ?_
        first | refine WL.move rfl rfl rfl ?_
        first | refine WL.move rfl rfl rfl ?_ | refine WL.skip _ rfl rfl rfl ?_
        first | refine WL.bin rfl rfl rfl rfl (u8_ne_t n45 _ _ _) ?_ | refine WL.bin rfl rfl rfl rfl (u8_ne_f n45 _ _ _) ?_ | refine WL.skip _ rfl rfl rfl ?_
        first | refine WL.pick rfl rfl rfl rfl ?_
        refine WL.done ?_
        refine EW.on ?_
        refine EW.cond_f rfl ?_
        refine EW.skip ?_
        refine pn_block ?_
        refine EW.on ?_
        refine EW.region ?_
        first | refine WL.move rfl rfl rfl ?_
        refine WL.bin rfl rfl rfl rfl (int_add (c := ((x.1 + 1 : Nat) : Int)) (by rw [IntKind.wrap_i64]; omega) _ _ _) ?_
        first | refine WL.assign rfl rfl rfl ?_
        refine WL.done ?_
        exact EW.again (E := rrE l) (R := fun x W => x.1 ≤ l.length ∧ Own W w.heap.size x.2 (dgt (l.take x.1)) ∧ okT (l.take x.1) = true ∧ Below w.heap.size w W) (m := fun x => l.length - x.1) (x := x) (x.1 + 1, x.2) [0, 4, 5] rfl ⟨by show x.1 + 1 ≤ _; omega, by show Own W _ x.2 (dgt (l.take (x.1 + 1))); rw [take_succ' hb0, (snoc_P hbP).1]; exact hO, by show okT (l.take (x.1 + 1)) = true; rw [take_succ' hb0]; exact (snoc_P hbP).2 hok, hb⟩ (by show l.length - (x.1 + 1) < l.length - x.1; omega)
      · have n32 : ¬ (b.toNat : Int) = 32 := m32
        have n9 : ¬ (b.toNat : Int) = 9 := m9
        have n10 : ¬ (b.toNat : Int) = 10 := m10
        have n45 : ¬ ¬ (b.toNat : Int) = 45 := fun h => h m45
        have hbP : isP b = true := decide_eq_true (by unfold SepN; omega)
        refine EW.region ?_
        first | refine WL.move rfl rfl rfl ?_
        first | refine WL.bin rfl rfl rfl rfl (u8_ne_t n32 _ _ _) ?_ | refine WL.bin rfl rfl rfl rfl (u8_ne_f n32 _ _ _) ?_
        first | refine WL.move rfl rfl rfl ?_
        first | refine WL.move rfl rfl rfl ?_ | refine WL.skip _ rfl rfl rfl ?_
        first | refine WL.bin rfl rfl rfl rfl (u8_ne_t n9 _ _ _) ?_ | refine WL.bin rfl rfl rfl rfl (u8_ne_f n9 _ _ _) ?_ | refine WL.skip _ rfl rfl rfl ?_
        first | refine WL.pick rfl rfl rfl rfl ?_
        first | refine WL.move rfl rfl rfl ?_
        first | refine WL.move rfl rfl rfl ?_ | refine WL.skip _ rfl rfl rfl ?_
        first | refine WL.bin rfl rfl rfl rfl (u8_ne_t n10 _ _ _) ?_ | refine WL.bin rfl rfl rfl rfl (u8_ne_f n10 _ _ _) ?_ | refine WL.skip _ rfl rfl rfl ?_
        first | refine WL.pick rfl rfl rfl rfl ?_
        first | refine WL.move rfl rfl rfl ?_
        first | refine WL.move rfl rfl rfl ?_ | refine WL.skip _ rfl rfl rfl ?_
        first | refine WL.bin rfl rfl rfl rfl (u8_ne_t n45 _ _ _) ?_ | refine WL.bin rfl rfl rfl rfl (u8_ne_f n45 _ _ _) ?_ | refine WL.skip _ rfl rfl rfl ?_
        first | refine WL.pick rfl rfl rfl rfl ?_
        refine WL.done ?_
        refine EW.on ?_
        refine EW.cond_f rfl ?_
        refine EW.skip ?_
        refine pn_block ?_
        refine EW.on ?_
        refine EW.region ?_
        first | refine WL.move rfl rfl rfl ?_
        refine WL.bin rfl rfl rfl rfl (int_add (c := ((x.1 + 1 : Nat) : Int)) (by rw [IntKind.wrap_i64]; omega) _ _ _) ?_
        first | refine WL.assign rfl rfl rfl ?_
        refine WL.done ?_
        exact EW.again (E := rrE l) (R := fun x W => x.1 ≤ l.length ∧ Own W w.heap.size x.2 (dgt (l.take x.1)) ∧ okT (l.take x.1) = true ∧ Below w.heap.size w W) (m := fun x => l.length - x.1) (x := x) (x.1 + 1, x.2) [0, 4, 5] rfl ⟨by show x.1 + 1 ≤ _; omega, by show Own W _ x.2 (dgt (l.take (x.1 + 1))); rw [take_succ' hb0, (snoc_P hbP).1]; exact hO, by show okT (l.take (x.1 + 1)) = true; rw [take_succ' hb0]; exact (snoc_P hbP).2 hok, hb⟩ (by show l.length - (x.1 + 1) < l.length - x.1; omega)
      · have n32 : ¬ (b.toNat : Int) = 32 := m32
        have n9 : ¬ (b.toNat : Int) = 9 := m9
        have n10 : ¬ (b.toNat : Int) = 10 := m10
        have n45 : ¬ (b.toNat : Int) = 45 := m45
        have hbad : (isP b || isD b) = false := by unfold isP isD; simp only [Bool.or_eq_false_iff, decide_eq_false_iff_not]; exact ⟨fun e => by unfold SepN at e; omega, by omega⟩
        refine EW.region ?_
        first | refine WL.move rfl rfl rfl ?_
        first | refine WL.bin rfl rfl rfl rfl (u8_ne_t n32 _ _ _) ?_ | refine WL.bin rfl rfl rfl rfl (u8_ne_f n32 _ _ _) ?_
        first | refine WL.move rfl rfl rfl ?_
        first | refine WL.move rfl rfl rfl ?_ | refine WL.skip _ rfl rfl rfl ?_
        first | refine WL.bin rfl rfl rfl rfl (u8_ne_t n9 _ _ _) ?_ | refine WL.bin rfl rfl rfl rfl (u8_ne_f n9 _ _ _) ?_ | refine WL.skip _ rfl rfl rfl ?_
        first | refine WL.pick rfl rfl rfl rfl ?_
        first | refine WL.move rfl rfl rfl ?_
        first | refine WL.move rfl rfl rfl ?_ | refine WL.skip _ rfl rfl rfl ?_
        first | refine WL.bin rfl rfl rfl rfl (u8_ne_t n10 _ _ _) ?_ | refine WL.bin rfl rfl rfl rfl (u8_ne_f n10 _ _ _) ?_ | refine WL.skip _ rfl rfl rfl ?_
        first | refine WL.pick rfl rfl rfl rfl ?_
        first | refine WL.move rfl rfl rfl ?_
        first | refine WL.move rfl rfl rfl ?_ | refine WL.skip _ rfl rfl rfl ?_
        first | refine WL.bin rfl rfl rfl rfl (u8_ne_t n45 _ _ _) ?_ | refine WL.bin rfl rfl rfl rfl (u8_ne_f n45 _ _ _) ?_ | refine WL.skip _ rfl rfl rfl ?_
        first | refine WL.pick rfl rfl rfl rfl ?_
        refine WL.done ?_
        refine EW.on ?_
        refine EW.cond_t rfl ?_
        refine EW.seq ?_
        refine EW.region ?_
        first | refine WL.assign rfl rfl rfl ?_
        first | refine WL.assign rfl rfl rfl ?_
        refine WL.done ?_
        refine EW.on ?_
        refine EW.ret ?_
        refine pr_block ?_
        refine pr_then ?_
        refine pr_then ?_
        refine pr_block ?_
        refine pr_then ?_
        exact EW.returns2 Tryd.results29 rfl rfl ⟨by rw [(rd_no (no_of_bad hb0 hbad)).1, (rd_no (no_of_bad hb0 hbad)).2]; rfl, hb⟩
  · refine EW.exit ?_
    refine px_then ?_
    refine px_then ?_
    refine px_block ?_
    refine EW.on ?_
    refine EW.seq ?_
    refine EW.seq ?_
    have hal : l.take x.1 = l := List.take_of_length_le (by omega)
    rw [hal] at hO hok
    refine EW.region ?_
    first | refine WL.move rfl rfl rfl ?_
    refine WL.len rfl rfl rfl (len_own hO _ _) ?_
    refine WL.bin rfl rfl rfl rfl (int_ne_d _ _ _ _ _) ?_
    refine WL.done ?_
    refine EW.on ?_
    refine EW.cond_d rfl (fun h42 => ?_) (fun h42 => ?_)
    · refine EW.seq ?_
      refine EW.region ?_
      first | refine WL.assign rfl rfl rfl ?_
      first | refine WL.assign rfl rfl rfl ?_
      refine WL.done ?_
      refine EW.on ?_
      refine EW.ret ?_
      refine pr_then ?_
      exact EW.returns2 Tryd.results29 rfl rfl ⟨by rw [(rd_no (fun h => by have := h.2; omega)).1, (rd_no (fun h => by have := h.2; omega)).2]; rfl, hb⟩
    · refine EW.skip ?_
      refine EW.on ?_
      refine EW.seq ?_
      refine EW.region ?_
      first | refine WL.move rfl rfl rfl ?_
      refine WL.conv rfl rfl rfl hO.has.convert ?_
      first | refine WL.assign rfl rfl rfl ?_
      first | refine WL.assign rfl rfl rfl ?_
      refine WL.done ?_
      refine EW.on ?_
      refine EW.ret ?_
      exact EW.returns2 Tryd.results29 rfl rfl ⟨by rw [(rd_yes ⟨hok, by omega⟩).1, (rd_yes ⟨hok, by omega⟩).2]; rfl, hb⟩
set_option maxRecDepth 100000 in
set_option maxHeartbeats 1000000 in
theorem rmatch_any (t a ka b kb : List UInt8) (ht : t.length ≤ 140737488355328) (hKa : ka.length = 32) (hKb : kb.length = 32) (w : World) (hL : Dst w) : Calls Tryd.prog 30 #[sv t, sv a, kv ka, sv b, kv kb] w fun e w' => e = .returned (.tuple #[.bool (mtD t a ka b kb), .int .i64 (mtE t a b)]) ∧ Below w.heap.size w w' := by
  obtain ⟨w1, q1, r1, b1, l1, hq1⟩ := box22 ka w
  obtain ⟨w2, q2, r2, b2, l2, hq2⟩ := box22 kb w1
  refine calls_of_args [sv t, sv a, kv ka, sv b, kv kb] Tryd.func30 rfl 38 Tryd.ntmps30 (by show 5 ≤ 38; decide) ?_
  refine EW.seq ?_
  refine EW.region ?_
  refine WL.box rfl rfl rfl r1 ?_
  refine WL.box rfl rfl rfl r2 ?_
  first | refine WL.assign rfl rfl rfl ?_
  first | refine WL.assign rfl rfl rfl ?_
  refine WL.done ?_
  refine EW.on ?_
  refine EW.seq ?_
  refine EW.region ?_
  first | refine WL.move rfl rfl rfl ?_
  refine WL.call [sv t] enter29 rfl rfl rfl (rread_any t ht w2) ?_
  rintro _ w3 ⟨rfl, l3⟩
  refine ⟨_, rfl, ?_⟩
  first | refine WL.move rfl rfl rfl ?_
  first | refine WL.extract rfl rfl rfl (ext_2 _ _ _).1 ?_
  first | refine WL.extract rfl rfl rfl (ext_2 _ _ _).2 ?_
  first | refine WL.assign rfl rfl rfl ?_
  first | refine WL.assign rfl rfl rfl ?_
  refine WL.done ?_
  refine EW.on ?_
  refine EW.seq ?_
  refine EW.seq ?_
  refine EW.region ?_
  first | refine WL.move rfl rfl rfl ?_
  refine WL.bin rfl rfl rfl rfl (int_ne_d _ _ _ _ _) ?_
  refine WL.done ?_
  refine EW.on ?_
  refine EW.cond_d rfl (fun h22 => ?_) (fun h22 => ?_)
  · refine EW.seq ?_
    refine EW.region ?_
    first | refine WL.move rfl rfl rfl ?_
    first | refine WL.assign rfl rfl rfl ?_
    first | refine WL.assign rfl rfl rfl ?_
    refine WL.done ?_
    refine EW.on ?_
    refine EW.ret ?_
    refine pr_then ?_
    exact EW.returns2 Tryd.results30 rfl rfl ⟨by unfold mtD mtE; rw [if_neg h22, if_neg h22], bt (bt l1 l2) l3⟩
  · refine EW.skip ?_
    refine EW.on ?_
    refine EW.seq ?_
    replace h22 : rdE t = 0 := by simpa using h22
    refine EW.region ?_
    first | refine WL.move rfl rfl rfl ?_
    refine WL.load rfl rfl rfl (ld22 ((b1.on l2).on l3) hKa) ?_
    first | refine WL.move rfl rfl rfl ?_
    refine WL.load rfl rfl rfl (ld22 (b2.on l3) hKb) ?_
    refine WL.call [sv a, kv ka, sv b, kv kb] enter39 rfl rfl rfl (rdigits_any a ka b kb hKa hKb w3 (((hL.on l1).on l2).on l3)) ?_
    rintro _ w4 ⟨rfl, l4⟩
    refine ⟨_, rfl, ?_⟩
    first | refine WL.move rfl rfl rfl ?_
    first | refine WL.extract rfl rfl rfl (ext_2 _ _ _).1 ?_
    first | refine WL.extract rfl rfl rfl (ext_2 _ _ _).2 ?_
    first | refine WL.assign rfl rfl rfl ?_
    first | refine WL.assign rfl rfl rfl ?_
    refine WL.done ?_
    refine EW.on ?_
    refine EW.seq ?_
    refine EW.seq ?_
    refine EW.region ?_
    first | refine WL.move rfl rfl rfl ?_
    refine WL.bin rfl rfl rfl rfl (int_ne_d _ _ _ _ _) ?_
    refine WL.done ?_
    refine EW.on ?_
    refine EW.cond_d rfl (fun h33 => ?_) (fun h33 => ?_)
    · refine EW.seq ?_
      refine EW.region ?_
      first | refine WL.move rfl rfl rfl ?_
      first | refine WL.assign rfl rfl rfl ?_
      first | refine WL.assign rfl rfl rfl ?_
      refine WL.done ?_
      refine EW.on ?_
      refine EW.ret ?_
      refine pr_then ?_
      exact EW.returns2 Tryd.results30 rfl rfl ⟨by unfold mtD mtE; rw [if_pos h22, if_neg h33], bt (bt (bt l1 l2) l3) l4⟩
    · refine EW.skip ?_
      refine EW.on ?_
      refine EW.seq ?_
      replace h33 : bhE a b = 0 := by simpa using h33
      refine EW.region ?_
      first | refine WL.move rfl rfl rfl ?_
      first | refine WL.move rfl rfl rfl ?_
      refine WL.bin rfl rfl rfl rfl (str_eq_d _ _ _ _ _) ?_
      first | refine WL.assign rfl rfl rfl ?_
      first | refine WL.assign rfl rfl rfl ?_
      refine WL.done ?_
      refine EW.on ?_
      refine EW.ret ?_
      exact EW.returns2 Tryd.results30 rfl rfl ⟨by unfold mtD mtE; rw [if_pos h22, if_pos h33, h33], bt (bt (bt l1 l2) l3) l4⟩
end Go.Proofs.YtnfikgnploockaaDoor
