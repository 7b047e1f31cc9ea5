import Derived.Test.YthlpfpggjkocmaaYe
set_option linter.unusedVariables false
set_option linter.unusedSimpArgs false
namespace Go.Proofs.Ythlpfpggjkocmaa
open Go.RowKit

def g0E (vj : Value) (st : Bool) (q : Nat) (u : Value) (i : Nat) : List (Nat × Value) := [(1, vj), (2, .bool st), (7, .pointer (some ⟨q, 0, none⟩)), (9, u), (10, .int .i64 (i : Int))]
structure G0 (w3 : World) (K : Nat) (u : Value) (i : Nat) (W : World) : Prop where
  e : Below w3.heap.size w3 W
  o : ∃ bs, Ob W w3.heap.size u bs ∧ bs.length = K
  le : i ≤ K
def g1E (st : Bool) (q : Nat) (u : Value) (b : UInt8) : List (Nat × Value) := [(2, .bool st), (7, .pointer (some ⟨q, 0, none⟩)), (9, u), (11, byt b)]
structure G2 (w3 : World) (K : Nat) (st : Bool) (p : Nat) (u : Value) (b : UInt8) (i : Nat) (W : World) : Prop where
  e : Below w3.heap.size w3 W
  o : ∃ bs, Ob W w3.heap.size u bs ∧ bs.length = K ∧ Hd2 st p bs b i
  le : i ≤ 512
def g2E (st : Bool) (q : Nat) (u : Value) (x : UInt8 × Nat) : List (Nat × Value) := [(2, .bool st), (7, .pointer (some ⟨q, 0, none⟩)), (9, u), (11, byt x.1), (12, .int .i64 (x.2 : Int))]
def g3E (q : Nat) (u : Value) (b : UInt8) : List (Nat × Value) := [(7, .pointer (some ⟨q, 0, none⟩)), (9, u), (11, byt b)]
structure G3 (w3 : World) (K p : Nat) (u : Value) (b : UInt8) (W : World) : Prop where
  e : Below w3.heap.size w3 W
  o : ∃ img, Ob W w3.heap.size u img ∧ img.length = K ∧ Mrk img p b.toNat
def g4E (q : Nat) (u : Value) (b : UInt8) (n : Nat) : List (Nat × Value) := [(7, .pointer (some ⟨q, 0, none⟩)), (9, u), (11, byt b), (13, .int .i64 (n : Int))]
structure G4 (wC : World) (bb p : Nat) (vp : Value) (img : List UInt8) (b n : Nat) (W : World) : Prop where
  f : Fx (fun k => vp.ownBlock = some k) wC W
  o : Os W bb vp (psT img p b n)
  le : n ≤ p
def g6E (q p : Nat) (u d1 d2 : Value) (ps : List (List UInt8)) (t : Nat) : List (Nat × Value) := [(7, .pointer (some ⟨q, 0, none⟩)), (9, u), (16, d1), (18, d2), (24, strV (zerL (512 * (1 + 2 * p)))), (25, strV (ps.take t).flatten), (26, .int .i64 (t : Int))]
theorem below_w3 {w3 W W' : World} {u : Value} {bs : List UInt8} (e : Below w3.heap.size w3 W) (o : Ob W w3.heap.size u bs) (x : Fx (fun k => u.ownBlock = some k) W W') : Below w3.heap.size w3 W' := below_of_new e x (fun k hk => o.base k hk)
set_option maxRecDepth 100000 in
set_option maxHeartbeats 4000000 in
theorem gives_any (a m : Int) (v vj : Value) (js : List UInt8) (st : Bool) (w : World) (hj : Has w vj js) : Calls Try.prog 4 #[.agg (lfC a m v).toArray, vj, .bool st] w fun e w' => e = .returned (.bool true) ∧ Below w.heap.size w w' := by
  obtain ⟨p, hp⟩ : ∃ p, 1 + pickN a 20 = p := ⟨_, rfl⟩
  have p20 := pickN_lt a 20 (by decide)
  have p4 := pickN_lt m 4 (by decide)
  have hneed : needD (p : Int) = ((4 * p + 1 : Nat) : Int) := by unfold needD; rw [if_neg (by omega), if_neg (by omega)]; omega
  refine calls_of_args [.agg (lfC a m v).toArray, vj, .bool st] Try.func4 rfl 301 Try.ntmps4 (by show 3 ≤ 301; decide) ?_
  refine EW.seq ?_
  refine EW.region ?_
  have r1 := run_boxR (P := Try.prog) 36 (lfC a m v) w _ rfl
  have e1 := below_new w (.cells (lfC a m v).toArray 36)
  have b1 := Blk.new w (lfC a m v) 36
  obtain ⟨q1, hq1⟩ : ∃ q, w.heap.size = q := ⟨_, rfl⟩
  obtain ⟨w1, hw1⟩ : ∃ w1, w.alloc (.cells (lfC a m v).toArray 36) = w1 := ⟨_, rfl⟩
  rw [hw1] at r1 e1 b1
  rw [hq1] at r1 b1
  refine WL.box rfl rfl rfl r1 ?_
  first | refine WL.assign rfl rfl rfl ?_
  refine WL.done ?_
  refine EW.on ?_
  refine EW.seq ?_
  refine EW.region ?_
  refine WL.load rfl rfl rfl (ld36 b1) ?_
  refine WL.call [.agg (lfC a m v).toArray] enter13 rfl rfl rfl (entered_ok a m v w1 p hp) ?_
  rintro _ w2 ⟨q, dd, ll, vp, rfl, hq, rb2, os2, hne, e2⟩
  refine ⟨_, rfl, ?_⟩
  first | refine WL.move rfl rfl rfl ?_
  first | refine WL.extract rfl rfl rfl (ext_2 _ _ _).1 ?_
  first | refine WL.extract rfl rfl rfl (ext_2 _ _ _).2 ?_
  first | refine WL.assign rfl rfl rfl ?_
  first | refine WL.assign rfl rfl rfl ?_
  refine WL.done ?_
  refine EW.on ?_
  refine EW.seq ?_
  refine EW.seq ?_
  refine EW.region ?_
  first | refine WL.move rfl rfl rfl ?_
  first | refine WL.un rfl rfl rfl (not_t _ _) ?_
  first | refine WL.move rfl rfl rfl ?_
  refine WL.call [] enter7 rfl rfl rfl (fixed_ok w2) ?_
  rintro _ w3 ⟨rfl, e3⟩
  have rb3 := rb2.on e3
  have os3 := os2.below e3
  have k3 : Below w.heap.size w w3 := (e1.trans (e2.mono e1.size)).trans (e3.mono (Nat.le_trans e1.size e2.size))
  have hj3 := hj.below k3
  refine ⟨_, rfl, ?_⟩
  first | refine WL.un rfl rfl rfl (not_t _ _) ?_ | refine WL.skip _ rfl rfl rfl ?_
  first | refine WL.pick rfl rfl rfl rfl ?_
  refine WL.done ?_
  refine EW.on ?_
  refine EW.cond_f rfl ?_
  refine EW.skip ?_
  refine EW.on ?_
  refine EW.seq ?_
  refine EW.ordB [(0, 0, 0), (1, 0, 0), (2, 0, 0), (3, 0, 1), (5, 0, 0), (6, 0, 0), (7, 0, 0), (8, 0, 1), (4, 1, 1), (9, 0, 0), (10, 0, 0), (11, 1, 1), (12, 0, 0)] (by kernel_rfl) rfl (by kernel_rfl) ?_
  simp only [opsZ, List.getD_cons_zero, List.getD_cons_succ]
  first | refine ZE.move rfl rfl rfl rfl sz0 ?_
  refine ZE.nilc rfl rfl rfl rfl sz0 ?_
  refine ZE.field rfl rfl rfl rfl sz0 (fun W => fld44 q 2 (by decide) W) ?_
  refine ZE.load rfl rfl rfl rfl sz1 (fun W hW => ldc3 (rb3.on (sb_of hW)) rfl) ?_
  first | refine ZE.move rfl rfl rfl rfl sz0 ?_
  refine ZE.nilc rfl rfl rfl rfl sz0 ?_
  refine ZE.field rfl rfl rfl rfl sz0 (fun W => fld44 q 3 (by decide) W) ?_
  refine ZE.load rfl rfl rfl rfl sz1 (fun W hW => ldc3 (rb3.on (sb_of hW)) rfl) ?_
  refine ZE.callR [.int .i64 (p : Int)] (fun v W => v = .int .i64 ((4 * p + 1 : Nat) : Int) ∧ Below w3.heap.size w3 W) enter11 rfl rfl rfl (fun _ _ h => .inr h.2) (fun W hW => (need_any (p : Int) W).mono fun e w' ⟨g1, g2⟩ => ⟨_, g1, by rw [hneed], by rw [g2]; exact hW⟩) ?_
  rintro _ ⟨_, rfl, _⟩
  refine ZE.bin rfl rfl rfl rfl rfl sz0 (fun W => int_add (c := ((4 * p + 1 + pickN m 4) : Nat)) (by rw [IntKind.wrap_i64]; omega) W _ _) ?_
  refine ZE.bin rfl rfl rfl rfl rfl sz0 (fun W => int_mulc (c := (((4 * p + 1 + pickN m 4) * 512) : Nat)) (by rw [IntKind.wrap_i64]; omega) W _ _) ?_
  refine ZE.mks (fun v W => Ob W w3.heap.size v (zerL ((4 * p + 1 + pickN m 4) * 512)) ∧ Below w3.heap.size w3 W) rfl rfl rfl rfl (fun _ _ h => .inr h.2) (fun W hW => by
      obtain ⟨u, w', g1, g2, g3⟩ := mk37z W ((4 * p + 1 + pickN m 4) * 512) (by omega)
      exact ⟨u, w', g1, g2.mono hW.2.size, hW.2.trans (g3.mono hW.2.size)⟩) ?_
  rintro u ⟨_, _, _⟩
  first | refine ZE.assign rfl rfl rfl rfl sz0 ?_
  rintro w4 ⟨o4, e4⟩
  refine EW.on ?_
  refine EW.seq ?_
  refine EW.seq ?_
  refine EW.region ?_
  first | refine WL.assign rfl rfl rfl ?_
  refine WL.done ?_
  refine EW.on ?_
  refine EW.block ?_
  refine EW.loop (g0E vj st q u) (G0 w3 ((4 * p + 1 + pickN m 4) * 512) u) (fun i => ((4 * p + 1 + pickN m 4) * 512) - i) 0 [1, 2, 7, 9, 10] rfl ⟨e4, ⟨_, o4, List.length_replicate⟩, Nat.zero_le _⟩ ?_
  rintro i wi ⟨ei, ⟨bs, obi, hbl⟩, hle⟩
  show EW _ _ _ _ [(1, vj), (2, .bool st), (7, .pointer (some ⟨q, 0, none⟩)), (9, u), (10, .int .i64 (i : Int))] _
  refine EW.seq ?_
  refine EW.seq ?_
  refine EW.region ?_
  first | refine WL.move rfl rfl rfl ?_
  first | refine WL.move rfl rfl rfl ?_
  refine WL.len rfl rfl rfl (obi.has.len _ _) ?_
  first | refine WL.bin rfl rfl rfl rfl (int_lt_t ‹_› _ _ _) ?_ | refine WL.bin rfl rfl rfl rfl (int_lt_f ‹_› _ _ _) ?_ | refine WL.bin rfl rfl rfl rfl (int_lt_d _ _ _ _ _) ?_
  refine WL.done ?_
  refine EW.on ?_
  refine EW.cond_d rfl (fun h55 => ?_) (fun h55 => ?_)
  · refine EW.skip ?_
    refine EW.on ?_
    refine EW.seq ?_
    refine EW.block ?_
    refine EW.seq ?_
    have ht : i < ((4 * p + 1 + pickN m 4) * 512) := by omega
    have tn : IntKind.i64.wrap ((i : Int) + 1) = ((i + 1 : Nat) : Int) := by rw [IntKind.wrap_i64]; omega
    refine EW.region ?_
    first | refine WL.move rfl rfl rfl ?_
    refine WL.len rfl rfl rfl (hj3.len _ _) ?_
    refine WL.bin rfl rfl rfl rfl (int_gt_d _ _ _ _ _) ?_
    refine WL.done ?_
    refine EW.on ?_
    refine EW.cond_d rfl (fun h60 => ?_) (fun h60 => ?_)
    · refine EW.region ?_
      first | refine WL.move rfl rfl rfl ?_
      first | refine WL.move rfl rfl rfl ?_
      first | refine WL.move rfl rfl rfl ?_
      first | refine WL.move rfl rfl rfl ?_
      refine WL.bin rfl rfl rfl rfl (int_mulc (c := ((i * 7 : Nat) : Int)) (by rw [IntKind.wrap_i64]; omega) _ _ _) ?_
      first | refine WL.move rfl rfl rfl ?_
      refine WL.bin rfl rfl rfl rfl (quo512 i (by omega) _ _ _) ?_
      refine WL.bin rfl rfl rfl rfl (int_add (c := ((i * 7 + i / 512 : Nat) : Int)) (by rw [IntKind.wrap_i64]; omega) _ _ _) ?_
      first | refine WL.move rfl rfl rfl ?_
      refine WL.len rfl rfl rfl (hj3.len _ _) ?_
      refine WL.bin rfl rfl rfl rfl (rem_nat (i * 7 + i / 512) js.length (by omega) _ _ _) ?_
      obtain ⟨x, hx⟩ : ∃ x, js[(i * 7 + i / 512) % js.length]? = some x := ⟨_, List.getElem?_eq_getElem (Nat.mod_lt _ (by omega))⟩
      obtain ⟨aj, ij, lj⟩ := (hj3.below ei).item hx
      refine WL.index rfl rfl rfl rfl (ij _) ?_
      refine WL.load rfl rfl rfl lj ?_
      obtain ⟨ad, w5, ix, s5, o5, x5⟩ := obi.setAt i (by omega) x 37 (.inl rfl)
      refine WL.index rfl rfl rfl rfl (ix _) ?_
      refine WL.store rfl rfl rfl s5 ?_
      refine WL.done ?_
      refine pn_block ?_
      refine EW.on ?_
      refine EW.region ?_
      first | refine WL.move rfl rfl rfl ?_
      first | refine WL.bin rfl rfl rfl rfl (int_add ‹_› _ _ _) ?_
      first | refine WL.assign rfl rfl rfl ?_
      refine WL.done ?_
      refine EW.again (i + 1) [1, 2, 7, 9, 10] rfl ⟨below_w3 ei obi x5, ⟨_, o5, by rw [List.length_set]; exact hbl⟩, by omega⟩ (by show _ - (i + 1) < _ - i; omega)
    · refine EW.skip ?_
      refine pn_block ?_
      refine EW.on ?_
      refine EW.region ?_
      first | refine WL.move rfl rfl rfl ?_
      first | refine WL.bin rfl rfl rfl rfl (int_add ‹_› _ _ _) ?_
      first | refine WL.assign rfl rfl rfl ?_
      refine WL.done ?_
      refine EW.again (i + 1) [1, 2, 7, 9, 10] rfl ⟨ei, ⟨bs, obi, hbl⟩, by omega⟩ (by show _ - (i + 1) < _ - i; omega)
  · refine EW.exit ?_
    refine px_then ?_
    refine px_then ?_
    refine px_block ?_
    refine EW.on ?_
    refine EW.seq ?_
    refine EW.region ?_
    first | refine WL.assign rfl rfl rfl ?_
    refine WL.done ?_
    refine EW.on ?_
    refine EW.join (g1E st q u) (fun b W => G2 w3 ((4 * p + 1 + pickN m 4) * 512) st p u b 512 W) ?_ ?_
    · refine EW.seq ?_
      obtain ⟨bs0, obi0, hbl0⟩ : ∃ bs0, Ob wi w3.heap.size u bs0 ∧ bs0.length = ((4 * p + 1 + pickN m 4) * 512) := ⟨bs, obi, hbl⟩
      have ei0 := ei
      obtain ⟨wE, hwE⟩ : ∃ wE, wi = wE := ⟨_, rfl⟩
      subst hwE
      refine EW.region ?_
      first | refine WL.assign rfl rfl rfl ?_
      refine WL.done ?_
      refine EW.on ?_
      refine EW.block ?_
      refine EW.loop (g2E st q u) (fun x => G2 w3 ((4 * p + 1 + pickN m 4) * 512) st p u x.1 x.2) (fun x => 512 - x.2) (0, 0) [2, 7, 9, 11, 12] rfl ⟨ei0, ⟨bs0, obi0, hbl0, Hd2.begin st p bs0⟩, Nat.zero_le _⟩ ?_
      rintro ⟨b, i⟩ wi ⟨ei, ⟨bs, obi, hbl, hh⟩, hle⟩
      simp only at hh hle obi
      show EW _ _ _ _ [(2, .bool st), (7, .pointer (some ⟨q, 0, none⟩)), (9, u), (11, byt b), (12, .int .i64 (i : Int))] _
      refine EW.seq ?_
      refine EW.seq ?_
      refine EW.region ?_
      first | refine WL.move rfl rfl rfl ?_
      first | refine WL.bin rfl rfl rfl rfl (int_lt_t ‹_› _ _ _) ?_ | refine WL.bin rfl rfl rfl rfl (int_lt_f ‹_› _ _ _) ?_ | refine WL.bin rfl rfl rfl rfl (int_lt_d _ _ _ _ _) ?_
      refine WL.done ?_
      refine EW.on ?_
      refine EW.cond_d rfl (fun h76 => ?_) (fun h76 => ?_)
      · refine EW.skip ?_
        refine EW.on ?_
        refine EW.seq ?_
        refine EW.block ?_
        refine EW.seq ?_
        rcases st_cases i st (by omega) with ⟨h0, hs⟩ | ⟨h0, hs⟩ | ⟨h0, hs⟩ | ⟨h0, hs⟩ | h0
        all_goals try subst hs
        all_goals try subst h0
        · refine EW.region ?_
          first | refine WL.move rfl rfl rfl ?_
          refine WL.bin rfl rfl rfl rfl (int_eq_t rfl _ _ _) ?_
          first | refine WL.move rfl rfl rfl ?_
          first | refine WL.move rfl rfl rfl ?_ | refine WL.skip _ rfl rfl rfl ?_
          first | refine WL.pick rfl rfl rfl rfl ?_
          refine WL.done ?_
          refine EW.on ?_
          refine EW.cond_t rfl ?_
          refine EW.seq ?_
          refine EW.ordB [(0, 0, 0), (1, 0, 0), (2, 0, 1), (3, 0, 0), (4, 0, 0), (5, 0, 0), (6, 0, 1), (7, 0, 0), (8, 0, 0), (9, 0, 0), (10, 0, 0), (11, 0, 0)] (by kernel_rfl) rfl (by kernel_rfl) ?_
          simp only [opsZ, List.getD_cons_zero, List.getD_cons_succ]
          first | refine ZE.move rfl rfl rfl rfl sz0 ?_
          obtain ⟨a0, i0, l0⟩ := obi.at37 (i := 0) (by omega)
          refine ZE.index rfl rfl rfl rfl rfl sz0 (fun W => i0 W) ?_
          refine ZE.load rfl rfl rfl rfl sz1 (fun W hW => l0 W (sb_of hW)) ?_
          first | refine ZE.move rfl rfl rfl rfl sz0 ?_
          refine ZE.nilc rfl rfl rfl rfl sz0 ?_
          refine ZE.field rfl rfl rfl rfl sz0 (fun W => fld44 q 2 (by decide) W) ?_
          refine ZE.load rfl rfl rfl rfl sz1 (fun W hW => ldc3 ((rb3.on ei).on (sb_of hW)) rfl) ?_
          refine ZE.min rfl rfl rfl rfl rfl sz0 (fun W => min_i _ _ _ W) ?_
          rw [show min (p : Int) 8 = ((min p 8 : Nat) : Int) by omega]
          refine ZE.bin rfl rfl rfl rfl rfl sz0 (fun W => shl8 (min p 8) (Nat.min_le_right _ _) W _ _) ?_
          refine ZE.bin rfl rfl rfl rfl rfl sz0 (fun W => sub8 (min p 8) (Nat.min_le_right _ _) W _ _) ?_
          refine ZE.bin rfl rfl rfl rfl rfl sz0 (fun W => and5 _ _ W _ _) ?_
          first | refine ZE.assign rfl rfl rfl rfl sz0 ?_
          rintro w15 e15
          refine EW.on ?_
          refine EW.region ?_
          first | refine WL.move rfl rfl rfl ?_
          first | refine WL.move rfl rfl rfl ?_
          obtain ⟨ad, w5, ix, s5, o5, x5⟩ := (obi.below e15).setAt 0 (by omega) (bs.getD 0 0 &&& UInt8.ofNat (2 ^ min p 8 - 1)) 37 (.inl rfl)
          refine WL.index rfl rfl rfl rfl (ix _) ?_
          refine WL.store rfl rfl rfl s5 ?_
          refine WL.done ?_
          refine pn_block ?_
          refine EW.on ?_
          refine EW.region ?_
          first | refine WL.move rfl rfl rfl ?_
          refine WL.bin rfl rfl rfl rfl (int_add (c := ((1 : Nat) : Int)) (by rw [IntKind.wrap_i64]; omega) _ _ _) ?_
          first | refine WL.assign rfl rfl rfl ?_
          refine WL.done ?_
          refine EW.again (E := g2E true q u) (R := fun x => G2 w3 ((4 * p + 1 + pickN m 4) * 512) true p u x.1 x.2) (m := fun x => 512 - x.2) (x := (b, 0)) (bs.getD 0 0 &&& UInt8.ofNat (2 ^ min p 8 - 1), 1) [2, 7, 9, 11, 12] rfl ⟨below_w3 (ei.trans (e15.mono ei.size)) (obi.below e15) x5, ⟨_, o5, by rw [List.length_set]; exact hbl, Hd2.first (b := b) (by omega) _ (by rw [mask_mod _ _ (Nat.min_le_right _ _)]; exact Nat.mod_lt _ (Nat.pow_pos (by decide)))⟩, by omega⟩ (by show 512 - 1 < 512 - 0; decide)
        · refine EW.region ?_
          first | refine WL.move rfl rfl rfl ?_
          refine WL.bin rfl rfl rfl rfl (int_eq_t rfl _ _ _) ?_
          first | refine WL.move rfl rfl rfl ?_
          first | refine WL.move rfl rfl rfl ?_ | refine WL.skip _ rfl rfl rfl ?_
          first | refine WL.pick rfl rfl rfl rfl ?_
          refine WL.done ?_
          refine EW.on ?_
          refine EW.cond_f rfl ?_
          refine EW.seq ?_
          refine EW.region ?_
          first | refine WL.move rfl rfl rfl ?_
          refine WL.bin rfl rfl rfl rfl (int_gt_f (by omega) _ _ _) ?_
          first | refine WL.move rfl rfl rfl ?_
          first | refine WL.move rfl rfl rfl ?_ | refine WL.skip _ rfl rfl rfl ?_
          first | refine WL.bin rfl rfl rfl rfl (int_lt_f (by omega) _ _ _) ?_ | refine WL.skip _ rfl rfl rfl ?_
          first | refine WL.pick rfl rfl rfl rfl ?_
          first | refine WL.move rfl rfl rfl ?_
          first | refine WL.move rfl rfl rfl ?_ | refine WL.skip _ rfl rfl rfl ?_
          first | refine WL.pick rfl rfl rfl rfl ?_
          first | refine WL.move rfl rfl rfl ?_
          first | refine WL.move rfl rfl rfl ?_ | refine WL.skip _ rfl rfl rfl ?_
          first | refine WL.bin rfl rfl rfl rfl (int_ge_f (by omega) _ _ _) ?_ | refine WL.skip _ rfl rfl rfl ?_
          first | refine WL.pick rfl rfl rfl rfl ?_
          refine WL.done ?_
          refine EW.on ?_
          refine EW.cond_f rfl ?_
          refine EW.skip ?_
          refine pn_block ?_
          refine EW.on ?_
          refine EW.region ?_
          first | refine WL.move rfl rfl rfl ?_
          refine WL.bin rfl rfl rfl rfl (int_add (c := ((1 : Nat) : Int)) (by rw [IntKind.wrap_i64]; omega) _ _ _) ?_
          first | refine WL.assign rfl rfl rfl ?_
          refine WL.done ?_
          refine EW.again (E := g2E false q u) (R := fun x => G2 w3 ((4 * p + 1 + pickN m 4) * 512) false p u x.1 x.2) (m := fun x => 512 - x.2) (x := (b, 0)) (b, 1) [2, 7, 9, 11, 12] rfl ⟨ei, ⟨bs, obi, hbl, hh.same (by decide)⟩, by omega⟩ (by show 512 - 1 < 512 - 0; decide)
        · refine EW.region ?_
          first | refine WL.move rfl rfl rfl ?_
          refine WL.bin rfl rfl rfl rfl (int_eq_f (by omega) _ _ _) ?_
          first | refine WL.move rfl rfl rfl ?_
          first | refine WL.move rfl rfl rfl ?_ | refine WL.skip _ rfl rfl rfl ?_
          first | refine WL.pick rfl rfl rfl rfl ?_
          refine WL.done ?_
          refine EW.on ?_
          refine EW.cond_f rfl ?_
          refine EW.seq ?_
          refine EW.region ?_
          first | refine WL.move rfl rfl rfl ?_
          refine WL.bin rfl rfl rfl rfl (int_gt_t (by omega) _ _ _) ?_
          first | refine WL.move rfl rfl rfl ?_
          first | refine WL.move rfl rfl rfl ?_ | refine WL.skip _ rfl rfl rfl ?_
          first | refine WL.bin rfl rfl rfl rfl (int_lt_t (by omega) _ _ _) ?_ | refine WL.skip _ rfl rfl rfl ?_
          first | refine WL.pick rfl rfl rfl rfl ?_
          first | refine WL.move rfl rfl rfl ?_
          first | refine WL.move rfl rfl rfl ?_ | refine WL.skip _ rfl rfl rfl ?_
          first | refine WL.pick rfl rfl rfl rfl ?_
          first | refine WL.move rfl rfl rfl ?_
          first | refine WL.move rfl rfl rfl ?_ | refine WL.skip _ rfl rfl rfl ?_
          first | refine WL.bin rfl rfl rfl rfl (int_ge_t (by omega) _ _ _) ?_ | refine WL.skip _ rfl rfl rfl ?_
          first | refine WL.pick rfl rfl rfl rfl ?_
          refine WL.done ?_
          refine EW.on ?_
          refine EW.cond_t rfl ?_
          refine EW.region ?_
          first | refine WL.move rfl rfl rfl ?_
          first | refine WL.move rfl rfl rfl ?_
          obtain ⟨ad, w5, ix, s5, o5, x5⟩ := obi.setAt i (by omega) 0 37 (.inl rfl)
          refine WL.index rfl rfl rfl rfl (ix _) ?_
          refine WL.store rfl rfl rfl s5 ?_
          refine WL.done ?_
          refine pn_block ?_
          refine EW.on ?_
          refine EW.region ?_
          first | refine WL.move rfl rfl rfl ?_
          refine WL.bin rfl rfl rfl rfl (int_add (c := ((i + 1 : Nat) : Int)) (by rw [IntKind.wrap_i64]; omega) _ _ _) ?_
          first | refine WL.assign rfl rfl rfl ?_
          refine WL.done ?_
          refine EW.again (E := g2E true q u) (R := fun x => G2 w3 ((4 * p + 1 + pickN m 4) * 512) true p u x.1 x.2) (m := fun x => 512 - x.2) (x := (b, i)) (b, i + 1) [2, 7, 9, 11, 12] rfl ⟨below_w3 ei obi x5, ⟨_, o5, by rw [List.length_set]; exact hbl, hh.zero (by omega) (by omega) (.inr rfl)⟩, by omega⟩ (by show 512 - (i + 1) < 512 - i; omega)
        · refine EW.region ?_
          first | refine WL.move rfl rfl rfl ?_
          refine WL.bin rfl rfl rfl rfl (int_eq_f (by omega) _ _ _) ?_
          first | refine WL.move rfl rfl rfl ?_
          first | refine WL.move rfl rfl rfl ?_ | refine WL.skip _ rfl rfl rfl ?_
          first | refine WL.pick rfl rfl rfl rfl ?_
          refine WL.done ?_
          refine EW.on ?_
          refine EW.cond_f rfl ?_
          refine EW.seq ?_
          refine EW.region ?_
          first | refine WL.move rfl rfl rfl ?_
          refine WL.bin rfl rfl rfl rfl (int_gt_t (by omega) _ _ _) ?_
          first | refine WL.move rfl rfl rfl ?_
          first | refine WL.move rfl rfl rfl ?_ | refine WL.skip _ rfl rfl rfl ?_
          first | refine WL.bin rfl rfl rfl rfl (int_lt_t (by omega) _ _ _) ?_ | refine WL.skip _ rfl rfl rfl ?_
          first | refine WL.pick rfl rfl rfl rfl ?_
          first | refine WL.move rfl rfl rfl ?_
          first | refine WL.move rfl rfl rfl ?_ | refine WL.skip _ rfl rfl rfl ?_
          first | refine WL.pick rfl rfl rfl rfl ?_
          first | refine WL.move rfl rfl rfl ?_
          first | refine WL.move rfl rfl rfl ?_ | refine WL.skip _ rfl rfl rfl ?_
          first | refine WL.bin rfl rfl rfl rfl (int_ge_f (by omega) _ _ _) ?_ | refine WL.skip _ rfl rfl rfl ?_
          first | refine WL.pick rfl rfl rfl rfl ?_
          refine WL.done ?_
          refine EW.on ?_
          refine EW.cond_f rfl ?_
          refine EW.skip ?_
          refine pn_block ?_
          refine EW.on ?_
          refine EW.region ?_
          first | refine WL.move rfl rfl rfl ?_
          refine WL.bin rfl rfl rfl rfl (int_add (c := ((i + 1 : Nat) : Int)) (by rw [IntKind.wrap_i64]; omega) _ _ _) ?_
          first | refine WL.assign rfl rfl rfl ?_
          refine WL.done ?_
          refine EW.again (E := g2E false q u) (R := fun x => G2 w3 ((4 * p + 1 + pickN m 4) * 512) false p u x.1 x.2) (m := fun x => 512 - x.2) (x := (b, i)) (b, i + 1) [2, 7, 9, 11, 12] rfl ⟨ei, ⟨bs, obi, hbl, hh.same (by omega)⟩, by omega⟩ (by show 512 - (i + 1) < 512 - i; omega)
        · refine EW.region ?_
          first | refine WL.move rfl rfl rfl ?_
          refine WL.bin rfl rfl rfl rfl (int_eq_f (by omega) _ _ _) ?_
          first | refine WL.move rfl rfl rfl ?_
          first | refine WL.move rfl rfl rfl ?_ | refine WL.skip _ rfl rfl rfl ?_
          first | refine WL.pick rfl rfl rfl rfl ?_
          refine WL.done ?_
          refine EW.on ?_
          refine EW.cond_f rfl ?_
          refine EW.seq ?_
          refine EW.region ?_
          first | refine WL.move rfl rfl rfl ?_
          refine WL.bin rfl rfl rfl rfl (int_gt_t (by omega) _ _ _) ?_
          first | refine WL.move rfl rfl rfl ?_
          first | refine WL.move rfl rfl rfl ?_ | refine WL.skip _ rfl rfl rfl ?_
          first | refine WL.bin rfl rfl rfl rfl (int_lt_f (by omega) _ _ _) ?_ | refine WL.skip _ rfl rfl rfl ?_
          first | refine WL.pick rfl rfl rfl rfl ?_
          first | refine WL.move rfl rfl rfl ?_
          first | refine WL.move rfl rfl rfl ?_ | refine WL.skip _ rfl rfl rfl ?_
          first | refine WL.pick rfl rfl rfl rfl ?_
          first | refine WL.move rfl rfl rfl ?_
          first | refine WL.move rfl rfl rfl ?_ | refine WL.skip _ rfl rfl rfl ?_
          first | refine WL.bin rfl rfl rfl rfl (int_ge_t (by omega) _ _ _) ?_ | refine WL.skip _ rfl rfl rfl ?_
          first | refine WL.pick rfl rfl rfl rfl ?_
          refine WL.done ?_
          refine EW.on ?_
          refine EW.cond_t rfl ?_
          refine EW.region ?_
          first | refine WL.move rfl rfl rfl ?_
          first | refine WL.move rfl rfl rfl ?_
          obtain ⟨ad, w5, ix, s5, o5, x5⟩ := obi.setAt 511 (by omega) 0 37 (.inl rfl)
          refine WL.index rfl rfl rfl rfl (ix _) ?_
          refine WL.store rfl rfl rfl s5 ?_
          refine WL.done ?_
          refine pn_block ?_
          refine EW.on ?_
          refine EW.region ?_
          first | refine WL.move rfl rfl rfl ?_
          refine WL.bin rfl rfl rfl rfl (int_add (c := ((511 + 1 : Nat) : Int)) (by rw [IntKind.wrap_i64]; omega) _ _ _) ?_
          first | refine WL.assign rfl rfl rfl ?_
          refine WL.done ?_
          refine EW.again (E := g2E st q u) (R := fun x => G2 w3 ((4 * p + 1 + pickN m 4) * 512) st p u x.1 x.2) (m := fun x => 512 - x.2) (x := (b, 511)) (b, 511 + 1) [2, 7, 9, 11, 12] rfl ⟨below_w3 ei obi x5, ⟨_, o5, by rw [List.length_set]; exact hbl, hh.zero (by omega) (by omega) (.inl rfl)⟩, by omega⟩ (by show 512 - (511 + 1) < 512 - 511; decide)
      · refine EW.exit ?_
        refine px_then ?_
        refine px_then ?_
        refine px_block ?_
        refine EW.met b [2, 7, 9, 11] rfl ⟨ei, ⟨bs, obi, hbl, by rw [show i = 512 by omega] at hh; exact hh⟩, Nat.le_refl _⟩
    · rintro b wi ⟨ei, ⟨bs, obi, hbl, hh⟩, _⟩
      show EW _ _ _ _ [(2, .bool st), (7, .pointer (some ⟨q, 0, none⟩)), (9, u), (11, byt b)] _
      refine EW.join (g3E q u) (fun b W => G3 w3 ((4 * p + 1 + pickN m 4) * 512) p u b W) ?_ ?_
      · refine EW.seq ?_
        cases st
        · refine EW.region ?_
          first | refine WL.move rfl rfl rfl ?_
          first | refine WL.move rfl rfl rfl ?_
          first | refine WL.move rfl rfl rfl ?_ | refine WL.skip _ rfl rfl rfl ?_
          first | refine WL.bin rfl rfl rfl rfl (ne5 b.toNat _ _ _) ?_ | refine WL.skip _ rfl rfl rfl ?_
          first | refine WL.pick rfl rfl rfl rfl ?_
          refine WL.done ?_
          refine EW.on ?_
          refine EW.cond_f rfl ?_
          refine EW.skip ?_
          refine EW.met b [7, 9, 11] rfl ⟨ei, ⟨bs, obi, hbl, Mrk.none hh (.inl rfl)⟩⟩
        · refine EW.region ?_
          first | refine WL.move rfl rfl rfl ?_
          first | refine WL.move rfl rfl rfl ?_
          first | refine WL.move rfl rfl rfl ?_ | refine WL.skip _ rfl rfl rfl ?_
          first | refine WL.bin rfl rfl rfl rfl (ne5 b.toNat _ _ _) ?_ | refine WL.skip _ rfl rfl rfl ?_
          first | refine WL.pick rfl rfl rfl rfl ?_
          refine WL.done ?_
          refine EW.on ?_
          refine EW.cond_d rfl (fun h118 => ?_) (fun h118 => ?_)
          · refine EW.region ?_
            first | refine WL.move rfl rfl rfl ?_
            obtain ⟨ad, w5, ix, s5, o5, x5⟩ := obi.setAt 511 (by omega) 1 37 (.inl rfl)
            refine WL.index rfl rfl rfl rfl (ix _) ?_
            refine WL.store rfl rfl rfl s5 ?_
            refine WL.done ?_
            refine EW.met b [7, 9, 11] rfl ⟨below_w3 ei obi x5, ⟨_, o5, by rw [List.length_set]; exact hbl, Mrk.stands hh (by omega) h118⟩⟩
          · refine EW.skip ?_
            refine EW.met b [7, 9, 11] rfl ⟨ei, ⟨bs, obi, hbl, Mrk.none hh (.inr (Classical.not_not.1 h118))⟩⟩
      · rintro b wC ⟨eC, ⟨img, obC, hil, hmk⟩⟩
        have rbC := rb3.on eC
        have osC := os3.below eC
        show EW _ _ _ _ [(7, .pointer (some ⟨q, 0, none⟩)), (9, u), (11, byt b)] _
        refine EW.seq ?_
        refine EW.seq ?_
        refine EW.region ?_
        first | refine WL.assign rfl rfl rfl ?_
        refine WL.done ?_
        refine EW.on ?_
        refine EW.block ?_
        refine EW.loop (g4E q u b) (G4 wC w1.heap.size p vp img b.toNat) (fun n => p - n) 0 [7, 9, 11, 13] rfl ⟨Fx.refl _ _, by rw [show psT img p b.toNat 0 = List.replicate p (zerL 1024) by unfold psT; simp]; exact osC, Nat.zero_le _⟩ ?_
        rintro n wi ⟨fi, osi, hle⟩
        have rbi := rbC.fx fi (fun h => hne q h rfl)
        have obi := obC.fx fi (fun k hk hu => by have h1 := ownsRow_lt os3.row k hk; have h2 := obC.base k hu; omega)
        show EW _ _ _ _ [(7, .pointer (some ⟨q, 0, none⟩)), (9, u), (11, byt b), (13, .int .i64 (n : Int))] _
        refine EW.seq ?_
        refine EW.seq ?_
        refine EW.region ?_
        first | refine WL.move rfl rfl rfl ?_
        first | refine WL.move rfl rfl rfl ?_
        refine WL.nilc rfl rfl rfl ?_
        refine WL.field rfl rfl rfl (fld44 q 2 (by decide) _) ?_
        refine WL.load rfl rfl rfl (ldc3 rbi rfl) ?_
        first | refine WL.bin rfl rfl rfl rfl (int_lt_t ‹_› _ _ _) ?_ | refine WL.bin rfl rfl rfl rfl (int_lt_f ‹_› _ _ _) ?_ | refine WL.bin rfl rfl rfl rfl (int_lt_d _ _ _ _ _) ?_
        refine WL.done ?_
        refine EW.on ?_
        refine EW.cond_d rfl (fun h126 => ?_) (fun h126 => ?_)
        · refine EW.skip ?_
          refine EW.on ?_
          refine EW.seq ?_
          refine EW.block ?_
          refine EW.seq ?_
          have ht : n < p := by omega
          have tn : IntKind.i64.wrap ((n : Int) + 1) = ((n + 1 : Nat) : Int) := by rw [IntKind.wrap_i64]; omega
          refine EW.ordB [(0, 0, 0), (1, 0, 0), (2, 0, 0), (3, 0, 0), (4, 0, 0), (5, 0, 0), (6, 0, 1), (7, 0, 0), (8, 0, 0), (9, 0, 0), (10, 0, 0), (11, 0, 0), (12, 0, 0), (13, 0, 0)] (by kernel_rfl) rfl (by kernel_rfl) ?_
          simp only [opsZ, List.getD_cons_zero, List.getD_cons_succ]
          first | refine ZE.move rfl rfl rfl rfl sz0 ?_
          refine ZE.bin rfl rfl rfl rfl rfl sz0 (fun W => int_mulc (c := ((1024 * n : Nat) : Int)) (by rw [IntKind.wrap_i64]; omega) W _ _) ?_
          refine ZE.bin rfl rfl rfl rfl rfl sz0 (fun W => int_add (c := ((512 + 1024 * n : Nat) : Int)) (by rw [IntKind.wrap_i64]; omega) W _ _) ?_
          first | refine ZE.move rfl rfl rfl rfl sz0 ?_
          refine ZE.nilc rfl rfl rfl rfl sz0 ?_
          refine ZE.field rfl rfl rfl rfl sz0 (fun W => fld44 q 2 (by decide) W) ?_
          refine ZE.load rfl rfl rfl rfl sz1 (fun W hW => ldc3 (rbi.on (sb_of hW)) rfl) ?_
          refine ZE.bin rfl rfl rfl rfl rfl sz0 (fun W => int_mulc (c := ((1024 * p : Nat) : Int)) (by rw [IntKind.wrap_i64]; omega) W _ _) ?_
          refine ZE.bin rfl rfl rfl rfl rfl sz0 (fun W => int_add (c := ((512 + 1024 * p : Nat) : Int)) (by rw [IntKind.wrap_i64]; omega) W _ _) ?_
          first | refine ZE.move rfl rfl rfl rfl sz0 ?_
          refine ZE.bin rfl rfl rfl rfl rfl sz0 (fun W => int_mulc (c := ((1024 * n : Nat) : Int)) (by rw [IntKind.wrap_i64]; omega) W _ _) ?_
          refine ZE.bin rfl rfl rfl rfl rfl sz0 (fun W => int_add (c := ((512 + 1024 * p + 1024 * n : Nat) : Int)) (by rw [IntKind.wrap_i64]; omega) W _ _) ?_
          first | refine ZE.assign rfl rfl rfl rfl sz0 ?_
          first | refine ZE.assign rfl rfl rfl rfl sz0 ?_
          rintro w24 e24
          replace rbi := rbi.on e24
          replace osi := osi.below e24
          replace obi := obi.below e24
          replace fi := fi.then_below e24
          refine EW.on ?_
          refine EW.seq ?_
          refine EW.ordB [(0, 0, 0), (1, 0, 0), (2, 0, 0), (3, 0, 1), (4, 0, 0), (5, 0, 0), (6, 0, 0), (7, 0, 0), (8, 0, 0), (9, 0, 0), (10, 0, 1), (11, 0, 0), (12, 1, 0)] (by kernel_rfl) rfl (by kernel_rfl) ?_
          simp only [opsZ, List.getD_cons_zero, List.getD_cons_succ]
          first | refine ZE.move rfl rfl rfl rfl sz0 ?_
          refine ZE.nilc rfl rfl rfl rfl sz0 ?_
          refine ZE.field rfl rfl rfl rfl sz0 (fun W => fld44 q 4 (by decide) W) ?_
          refine ZE.load rfl rfl rfl rfl sz1 (fun W hW => ldc42 (rbi.on (sb_of hW)) rfl) ?_
          first | refine ZE.move rfl rfl rfl rfl sz0 ?_
          first | refine ZE.move rfl rfl rfl rfl sz0 ?_
          first | refine ZE.move rfl rfl rfl rfl sz0 ?_
          first | refine ZE.move rfl rfl rfl rfl sz0 ?_
          refine ZE.bin rfl rfl rfl rfl rfl sz0 (fun W => int_add (c := ((512 + 1024 * p + 1024 * n + 1024 : Nat) : Int)) (by rw [IntKind.wrap_i64]; omega) W _ _) ?_
          refine ZE.slice2 rfl rfl rfl rfl rfl rfl sz0 (fun W => by rw [sl37]; exact obi.has.cutLH (512 + 1024 * p + 1024 * n) (512 + 1024 * p + 1024 * n + 1024) (by omega) (by omega) W) ?_
          refine ZE.conv rfl rfl rfl rfl sz1 (fun W hW => ((obi.has.cut (512 + 1024 * p + 1024 * n) (512 + 1024 * p + 1024 * n + 1024) (by omega) (by omega)).below (sb_of hW)).convert) ?_
          rw [show 512 + 1024 * p + 1024 * n + 1024 - (512 + 1024 * p + 1024 * n) = 1024 by omega]
          obtain ⟨a9, w9, i9, _, _, _⟩ := osi.setAt n (by rw [psT_len _ _ _ _ hle]; exact ht) []
          refine ZE.index rfl rfl rfl rfl rfl sz0 (fun W => i9 W) ?_
          refine ZE.store (fun W => Os W w1.heap.size vp ((psT img p b.toNat n).set n (cutL img (512 + 1024 * p + 1024 * n) 1024)) ∧ Fx (fun k => vp.ownBlock = some k) w24 W) rfl rfl rfl (fun _ _ => .inl rfl) (fun W hW => by
      obtain ⟨a8, w8, i8, s8, o8, x8⟩ := (osi.below hW).setAt n (by rw [psT_len _ _ _ _ hle]; exact ht) (cutL img (512 + 1024 * p + 1024 * n) 1024)
      have e := (i9 W).symm.trans (i8 W)
      simp only [Result.ok.injEq, Value.pointer.injEq, Option.some.injEq, and_true] at e
      rw [← e] at s8
      exact ⟨w8, s8, o8, (Fx.of_below hW).trans x8 (fun _ _ h => h)⟩) ?_
          rintro w5 ⟨os5, f5⟩
          have rb5 := rbi.fx f5 (fun h => hne q h rfl)
          have ob5 := obi.fx f5 (fun k hk hu => by have h1 := ownsRow_lt os3.row k hk; have h2 := obi.base k hu; omega)
          refine EW.on ?_
          refine EW.seq ?_
          by_cases h8 : n < 8
          · refine EW.region ?_
            first | refine WL.move rfl rfl rfl ?_
            refine WL.bin rfl rfl rfl rfl (int_lt_t (by omega) _ _ _) ?_
            first | refine WL.move rfl rfl rfl ?_
            first | refine WL.move rfl rfl rfl ?_ | refine WL.skip _ rfl rfl rfl ?_
            first | refine WL.move rfl rfl rfl ?_ | refine WL.skip _ rfl rfl rfl ?_
            first | refine WL.bin rfl rfl rfl rfl (shr5 b.toNat n (by omega) _ _ _) ?_ | refine WL.skip _ rfl rfl rfl ?_
            first | refine WL.bin rfl rfl rfl rfl (and1 (b.toNat / 2 ^ n) (Nat.lt_of_le_of_lt (Nat.div_le_self _ _) (UInt8.toNat_lt _)) _ _ _) ?_ | refine WL.skip _ rfl rfl rfl ?_
            first | refine WL.bin rfl rfl rfl rfl (eq5 (b.toNat / 2 ^ n % 2) 1 _ _ _) ?_ | refine WL.skip _ rfl rfl rfl ?_
            first | refine WL.pick rfl rfl rfl rfl ?_
            refine WL.done ?_
            refine EW.on ?_
            refine EW.cond_d rfl (fun h161 => ?_) (fun h161 => ?_)
            · refine EW.ordB [(0, 0, 0), (1, 0, 0), (2, 0, 0), (3, 0, 1), (4, 0, 0), (5, 0, 0), (6, 0, 0), (7, 0, 0), (8, 0, 0), (9, 0, 0), (10, 0, 1), (11, 0, 0), (12, 1, 0)] (by kernel_rfl) rfl (by kernel_rfl) ?_
              simp only [opsZ, List.getD_cons_zero, List.getD_cons_succ]
              first | refine ZE.move rfl rfl rfl rfl sz0 ?_
              refine ZE.nilc rfl rfl rfl rfl sz0 ?_
              refine ZE.field rfl rfl rfl rfl sz0 (fun W => fld44 q 4 (by decide) W) ?_
              refine ZE.load rfl rfl rfl rfl sz1 (fun W hW => ldc42 (rb5.on (sb_of hW)) rfl) ?_
              first | refine ZE.move rfl rfl rfl rfl sz0 ?_
              first | refine ZE.move rfl rfl rfl rfl sz0 ?_
              first | refine ZE.move rfl rfl rfl rfl sz0 ?_
              first | refine ZE.move rfl rfl rfl rfl sz0 ?_
              refine ZE.bin rfl rfl rfl rfl rfl sz0 (fun W => int_add (c := ((512 + 1024 * n + 1024 : Nat) : Int)) (by rw [IntKind.wrap_i64]; omega) W _ _) ?_
              refine ZE.slice2 rfl rfl rfl rfl rfl rfl sz0 (fun W => by rw [sl37]; exact ob5.has.cutLH (512 + 1024 * n) (512 + 1024 * n + 1024) (by omega) (by omega) W) ?_
              refine ZE.conv rfl rfl rfl rfl sz1 (fun W hW => ((ob5.has.cut (512 + 1024 * n) (512 + 1024 * n + 1024) (by omega) (by omega)).below (sb_of hW)).convert) ?_
              rw [show 512 + 1024 * n + 1024 - (512 + 1024 * n) = 1024 by omega]
              obtain ⟨a9, w9, i9, _, _, _⟩ := os5.setAt n (by rw [List.length_set, psT_len _ _ _ _ hle]; exact ht) []
              refine ZE.index rfl rfl rfl rfl rfl sz0 (fun W => i9 W) ?_
              refine ZE.store (fun W => Os W w1.heap.size vp (((psT img p b.toNat n).set n (cutL img (512 + 1024 * p + 1024 * n) 1024)).set n (cutL img (512 + 1024 * n) 1024)) ∧ Fx (fun k => vp.ownBlock = some k) w5 W) rfl rfl rfl (fun _ _ => .inl rfl) (fun W hW => by
      obtain ⟨a8, w8, i8, s8, o8, x8⟩ := (os5.below hW).setAt n (by rw [List.length_set, psT_len _ _ _ _ hle]; exact ht) (cutL img (512 + 1024 * n) 1024)
      have e := (i9 W).symm.trans (i8 W)
      simp only [Result.ok.injEq, Value.pointer.injEq, Option.some.injEq, and_true] at e
      rw [← e] at s8
      exact ⟨w8, s8, o8, (Fx.of_below hW).trans x8 (fun _ _ h => h)⟩) ?_
              rintro w6 ⟨os6, f6⟩
              refine pn_block ?_
              refine EW.on ?_
              refine EW.region ?_
              first | refine WL.move rfl rfl rfl ?_
              first | refine WL.bin rfl rfl rfl rfl (int_add ‹_› _ _ _) ?_
              first | refine WL.assign rfl rfl rfl ?_
              refine WL.done ?_
              refine EW.again (n + 1) [7, 9, 11, 13] rfl ⟨(fi.trans f5 (fun _ _ h => h)).trans f6 (fun _ _ h => h), by rw [← psT_set img p b.toNat n ht]; rw [List.set_set] at os6; unfold pgL; rw [if_pos ⟨h8, h161⟩]; exact os6, by omega⟩ (by show p - (n + 1) < p - n; omega)
            · refine EW.skip ?_
              refine pn_block ?_
              refine EW.on ?_
              refine EW.region ?_
              first | refine WL.move rfl rfl rfl ?_
              first | refine WL.bin rfl rfl rfl rfl (int_add ‹_› _ _ _) ?_
              first | refine WL.assign rfl rfl rfl ?_
              refine WL.done ?_
              refine EW.again (n + 1) [7, 9, 11, 13] rfl ⟨fi.trans f5 (fun _ _ h => h), by rw [← psT_set img p b.toNat n ht]; unfold pgL; rw [if_neg (fun h => h161 h.2)]; exact os5, by omega⟩ (by show p - (n + 1) < p - n; omega)
          · refine EW.region ?_
            first | refine WL.move rfl rfl rfl ?_
            refine WL.bin rfl rfl rfl rfl (int_lt_f (by omega) _ _ _) ?_
            first | refine WL.move rfl rfl rfl ?_
            first | refine WL.move rfl rfl rfl ?_ | refine WL.skip _ rfl rfl rfl ?_
            first | refine WL.move rfl rfl rfl ?_ | refine WL.skip _ rfl rfl rfl ?_
            first | refine WL.bin rfl rfl rfl rfl (shr5 b.toNat n (by omega) _ _ _) ?_ | refine WL.skip _ rfl rfl rfl ?_
            first | refine WL.bin rfl rfl rfl rfl (and1 (b.toNat / 2 ^ n) (Nat.lt_of_le_of_lt (Nat.div_le_self _ _) (UInt8.toNat_lt _)) _ _ _) ?_ | refine WL.skip _ rfl rfl rfl ?_
            first | refine WL.bin rfl rfl rfl rfl (eq5 (b.toNat / 2 ^ n % 2) 1 _ _ _) ?_ | refine WL.skip _ rfl rfl rfl ?_
            first | refine WL.pick rfl rfl rfl rfl ?_
            refine WL.done ?_
            refine EW.on ?_
            refine EW.cond_f rfl ?_
            refine EW.skip ?_
            refine pn_block ?_
            refine EW.on ?_
            refine EW.region ?_
            first | refine WL.move rfl rfl rfl ?_
            first | refine WL.bin rfl rfl rfl rfl (int_add ‹_› _ _ _) ?_
            first | refine WL.assign rfl rfl rfl ?_
            refine WL.done ?_
            refine EW.again (n + 1) [7, 9, 11, 13] rfl ⟨fi.trans f5 (fun _ _ h => h), by rw [← psT_set img p b.toNat n ht]; unfold pgL; rw [if_neg (fun h => h8 h.1)]; exact os5, by omega⟩ (by show p - (n + 1) < p - n; omega)
        · refine EW.exit ?_
          refine px_then ?_
          refine px_then ?_
          refine px_block ?_
          refine EW.on ?_
          refine EW.seq ?_
          have hnp : n = p := by omega
          have kC : Below w.heap.size w wC := k3.trans (eC.mono k3.size)
          have kI : Below w.heap.size w wi := below_of_new kC fi (fun k hk => Nat.le_trans e1.size (os3.base k hk))
          obtain ⟨ps, hps⟩ : ∃ ps, (List.range p).map (pgL img p b.toNat) = ps := ⟨_, rfl⟩
          have hpsT : psT img p b.toNat n = ps := by rw [hnp, ← hps]; unfold psT; simp
          rw [hpsT] at osi
          have hpsn : ps.length = p := by rw [← hps, List.length_map, List.length_range]
          have hpsl : ∀ x ∈ ps, x.length = 1024 := fun x hx => by
                                        rw [← hps] at hx
                                        obtain ⟨y, hy, rfl⟩ := List.mem_map.1 hx
                                        exact pgL_len img p (pickN m 4) b.toNat y hil (List.mem_range.1 hy)
          refine EW.region ?_
          first | refine WL.move rfl rfl rfl ?_
          refine WL.call [u] enter14 rfl rfl rfl (load_ok u img (4 * p + 1 + pickN m 4) (by omega) (by omega) hil wi obi.has) ?_
          rintro _ wL ⟨rfl, hzL⟩
          obtain ⟨L1, hL1p, hL1F, dk1⟩ := Dk.new wi (4 * p + 1 + pickN m 4) img (by omega) (by omega) hil
          have eL : Below wi.heap.size wi wL := by rw [hzL]; exact newW_below _ _ _
          rw [← hzL] at dk1
          rw [← hL1p]
          refine ⟨_, rfl, ?_⟩
          first | refine WL.move rfl rfl rfl ?_
          first | refine WL.extract rfl rfl rfl (ext_2 _ _ _).1 ?_
          first | refine WL.extract rfl rfl rfl (ext_2 _ _ _).2 ?_
          first | refine WL.assign rfl rfl rfl ?_
          first | refine WL.assign rfl rfl rfl ?_
          refine WL.done ?_
          refine EW.on ?_
          refine EW.seq ?_
          refine EW.region ?_
          first | refine WL.move rfl rfl rfl ?_
          refine WL.call [u] enter14 rfl rfl rfl (load_ok u img (4 * p + 1 + pickN m 4) (by omega) (by omega) hil wL (obi.has.below eL)) ?_
          rintro _ wM ⟨rfl, hzM⟩
          obtain ⟨L2, hL2p, hL2F, dk2⟩ := Dk.new wL (4 * p + 1 + pickN m 4) img (by omega) (by omega) hil
          have eM : Below wL.heap.size wL wM := by rw [hzM]; exact newW_below _ _ _
          rw [← hzM] at dk2
          rw [← hL2p]
          have dM1 := dk1.below eM
          have hd12 : ∀ k, L2.F k → ¬ L1.F k := fun k h2 h1 => by have := hL2F k h2; have := dk1.lt k h1; omega
          refine ⟨_, rfl, ?_⟩
          first | refine WL.move rfl rfl rfl ?_
          first | refine WL.extract rfl rfl rfl (ext_2 _ _ _).1 ?_
          first | refine WL.extract rfl rfl rfl (ext_2 _ _ _).2 ?_
          first | refine WL.assign rfl rfl rfl ?_
          first | refine WL.assign rfl rfl rfl ?_
          refine WL.done ?_
          refine EW.on ?_
          refine EW.seq ?_
          refine EW.seq ?_
          refine EW.region ?_
          first | refine WL.move rfl rfl rfl ?_
          refine WL.bin rfl rfl rfl rfl (int_ne_f rfl _ _ _) ?_
          first | refine WL.move rfl rfl rfl ?_
          first | refine WL.move rfl rfl rfl ?_ | refine WL.skip _ rfl rfl rfl ?_
          refine WL.bin rfl rfl rfl rfl (int_ne_f rfl _ _ _) ?_
          first | refine WL.pick rfl rfl rfl rfl ?_
          first | refine WL.move rfl rfl rfl ?_
          first | refine WL.move rfl rfl rfl ?_ | refine WL.skip _ rfl rfl rfl ?_
          refine WL.bin rfl rfl rfl rfl (eq41s _ _ _ _) ?_
          first | refine WL.pick rfl rfl rfl rfl ?_
          first | refine WL.move rfl rfl rfl ?_
          first | refine WL.move rfl rfl rfl ?_ | refine WL.skip _ rfl rfl rfl ?_
          refine WL.bin rfl rfl rfl rfl (eq41s _ _ _ _) ?_
          first | refine WL.pick rfl rfl rfl rfl ?_
          refine WL.done ?_
          refine EW.on ?_
          refine EW.cond_f rfl ?_
          refine EW.skip ?_
          refine EW.on ?_
          refine EW.seq ?_
          refine EW.region ?_
          first | refine WL.move rfl rfl rfl ?_
          refine WL.call [.pointer (some ⟨L1.p, 0, none⟩)] enter5 rfl rfl rfl (open_any dM1 (by omega) (by omega) (by omega) hil hmk) ?_
          rintro _ wO ⟨ql, L1', c1, s1, rfl, tO, dO, himg1⟩
          have dO2 := dk2.fx tO.fx hd12
          refine ⟨_, rfl, ?_⟩
          first | refine WL.move rfl rfl rfl ?_
          refine WL.extract rfl rfl rfl (ext_3 _ _ _ _).1 ?_
          refine WL.extract rfl rfl rfl (ext_3 _ _ _ _).2.1 ?_
          refine WL.extract rfl rfl rfl (ext_3 _ _ _ _).2.2 ?_
          first | refine WL.assign rfl rfl rfl ?_
          first | refine WL.assign rfl rfl rfl ?_
          first | refine WL.assign rfl rfl rfl ?_
          refine WL.done ?_
          refine EW.on ?_
          refine EW.seq ?_
          refine EW.region ?_
          first | refine WL.move rfl rfl rfl ?_
          refine WL.call [.pointer (some ⟨L2.p, 0, none⟩)] enter6 rfl rfl rfl (clear_any dO2 (by omega) (by omega) (by omega) hil) ?_
          rintro _ wX ⟨L2', c2, s2, rfl, tX, dX, himg2⟩
          have dX1 := dO.fx tX.fx (fun k h1 h2 => (tO.own k h1).elim (hd12 k h2) (fun h3 => by have := dk2.lt k h2; omega))
          have hF1 : ∀ k, k < wi.heap.size → ¬ L1.F k := fun k hk hF => by have := hL1F k hF; omega
          have hF2 : ∀ k, k < wi.heap.size → ¬ L2.F k := fun k hk hF => by have := hL2F k hF; have := eL.size; omega
          have rbX := (((rbi.on eL).on eM).fx tO.fx (hF1 q rbi.lt)).fx tX.fx (hF2 q rbi.lt)
          have hvl : ∀ k, vp.ownBlock = some k → k < wi.heap.size := fun k hk => ownsRow_lt osi.row k hk
          have osX := (((osi.below eL).below eM).fx tO.fx (fun k hk => hF1 k (hvl k hk))).fx tX.fx (fun k hk => hF2 k (hvl k hk))
          have hul : ∀ k, u.ownBlock = some k → k < wi.heap.size := fun k hk => (obi.lt hk).1
          have obX := (((obi.below eL).below eM).fx tO.fx (fun k hk hu => hF1 k (hul k hu) hk)).fx tX.fx (fun k hk hu => hF2 k (hul k hu) hk)
          have kX : Below w.heap.size w wX := by
                              have k1 := kI.trans (eL.mono kI.size)
                              have k2 := k1.trans (eM.mono k1.size)
                              have k3 := k2.trans (tO.fx.below (fun k hk hF => by have := hL1F k hF; have := kI.size; omega) k2.size)
                              exact k3.trans (tX.fx.below (fun k hk hF => by have := hL2F k hF; have := kI.size; have := eL.size; omega) k3.size)
          clear hF1 hF2 hul hvl
          refine ⟨_, rfl, ?_⟩
          first | refine WL.assign rfl rfl rfl ?_
          refine WL.done ?_
          refine EW.on ?_
          refine EW.seq ?_
          refine EW.seq ?_
          refine EW.region ?_
          first | refine WL.move rfl rfl rfl ?_
          refine WL.bin rfl rfl rfl rfl (ne24n _ _) ?_
          first | refine WL.move rfl rfl rfl ?_
          first | refine WL.move rfl rfl rfl ?_ | refine WL.skip _ rfl rfl rfl ?_
          refine WL.bin rfl rfl rfl rfl (eq22s ql _ _ _) ?_
          first | refine WL.pick rfl rfl rfl rfl ?_
          first | refine WL.move rfl rfl rfl ?_
          first | refine WL.move rfl rfl rfl ?_ | refine WL.skip _ rfl rfl rfl ?_
          refine WL.bin rfl rfl rfl rfl (ne24n _ _) ?_
          first | refine WL.pick rfl rfl rfl rfl ?_
          first | refine WL.move rfl rfl rfl ?_
          first | refine WL.move rfl rfl rfl ?_ | refine WL.skip _ rfl rfl rfl ?_
          first | refine WL.move rfl rfl rfl ?_ | refine WL.skip _ rfl rfl rfl ?_
          refine WL.bin rfl rfl rfl rfl (ne5 b.toNat _ _ _) ?_
          refine WL.bin rfl rfl rfl rfl (neb _ _ _ _) ?_
          first | refine WL.pick rfl rfl rfl rfl ?_
          refine WL.done ?_
          refine EW.on ?_
          refine EW.cond_f rfl ?_
          refine EW.skip ?_
          refine EW.on ?_
          refine EW.seq ?_
          rw [hps] at himg1
          refine EW.region ?_
          first | refine WL.move rfl rfl rfl ?_
          refine WL.nilc rfl rfl rfl ?_
          refine WL.field rfl rfl rfl (fld44 q 2 (by decide) _) ?_
          refine WL.load rfl rfl rfl (ldc3 rbX rfl) ?_
          refine WL.bin rfl rfl rfl rfl (int_mulc (c := ((2 * p : Nat) : Int)) (by rw [IntKind.wrap_i64]; omega) _ _ _) ?_
          refine WL.bin rfl rfl rfl rfl (int_add (c := ((1 + 2 * p : Nat) : Int)) (by rw [IntKind.wrap_i64]; omega) _ _ _) ?_
          refine WL.bin rfl rfl rfl rfl (int_mulc (c := ((512 * (1 + 2 * p) : Nat) : Int)) (by rw [IntKind.wrap_i64]; omega) _ _ _) ?_
          obtain ⟨uz, wY, rY, oY, eY⟩ := mk37z wX (512 * (1 + 2 * p)) (by omega)
          refine WL.mks rfl rfl rfl rfl rY ?_
          refine WL.conv rfl rfl rfl oY.has.convert ?_
          replace rbX := rbX.on eY
          replace osX := osX.below eY
          replace obX := obX.below eY
          replace dX := dX.below eY
          replace dX1 := dX1.below eY
          replace kX := kX.trans (eY.mono kX.size)
          first | refine WL.assign rfl rfl rfl ?_
          refine WL.done ?_
          refine EW.on ?_
          refine EW.seq ?_
          refine EW.region ?_
          first | refine WL.assign rfl rfl rfl ?_
          refine WL.done ?_
          refine EW.on ?_
          refine EW.seq ?_
          refine EW.seq ?_
          refine EW.region ?_
          first | refine WL.assign rfl rfl rfl ?_
          refine WL.done ?_
          refine EW.on ?_
          refine EW.block ?_
          refine EW.loop (fun t => g6E q p u (.pointer (some ⟨L1.p, 0, none⟩)) (.pointer (some ⟨L2.p, 0, none⟩)) ps t) (fun t W => W = wY ∧ t ≤ p) (fun t => p - t) 0 [7, 9, 16, 18, 24, 25, 26] rfl ⟨rfl, Nat.zero_le _⟩ ?_
          rintro t wj ⟨hwj, hle6⟩
          subst hwj
          show EW _ _ _ _ [(7, .pointer (some ⟨q, 0, none⟩)), (9, u), (16, .pointer (some ⟨L1.p, 0, none⟩)), (18, .pointer (some ⟨L2.p, 0, none⟩)), (24, strV (zerL (512 * (1 + 2 * p)))), (25, strV (ps.take t).flatten), (26, .int .i64 (t : Int))] _
          refine EW.seq ?_
          refine EW.seq ?_
          refine EW.region ?_
          first | refine WL.move rfl rfl rfl ?_
          first | refine WL.move rfl rfl rfl ?_
          refine WL.nilc rfl rfl rfl ?_
          refine WL.field rfl rfl rfl (fld44 q 2 (by decide) _) ?_
          refine WL.load rfl rfl rfl (ldc3 rbX rfl) ?_
          first | refine WL.bin rfl rfl rfl rfl (int_lt_t ‹_› _ _ _) ?_ | refine WL.bin rfl rfl rfl rfl (int_lt_f ‹_› _ _ _) ?_ | refine WL.bin rfl rfl rfl rfl (int_lt_d _ _ _ _ _) ?_
          refine WL.done ?_
          refine EW.on ?_
          refine EW.cond_d rfl (fun h236 => ?_) (fun h236 => ?_)
          · refine EW.skip ?_
            refine EW.on ?_
            refine EW.seq ?_
            refine EW.block ?_
            have ht : t < ps.length := by omega
            have tn : IntKind.i64.wrap ((t : Int) + 1) = ((t + 1 : Nat) : Int) := by rw [IntKind.wrap_i64]; omega
            refine EW.region ?_
            first | refine WL.move rfl rfl rfl ?_
            first | refine WL.move rfl rfl rfl ?_
            refine WL.nilc rfl rfl rfl ?_
            refine WL.field rfl rfl rfl (fld44 q 4 (by decide) _) ?_
            refine WL.load rfl rfl rfl (ldc42 rbX rfl) ?_
            first | refine WL.move rfl rfl rfl ?_
            obtain ⟨x, hx⟩ : ∃ x, ps[t]? = some x := ⟨_, List.getElem?_eq_getElem ht⟩
            obtain ⟨a1, i1, l1⟩ := osX.item hx
            refine WL.index rfl rfl rfl rfl (i1 _) ?_
            refine WL.load rfl rfl rfl l1 ?_
            have hfl := flat_len (ps := ps.take t) (fun x hx => by rw [hpsl x (List.mem_of_mem_take hx)]; decide)
            have hfl2 : (ps.take t).length ≤ t := by rw [List.length_take]; omega
            have hxl := hpsl x (List.mem_of_getElem? hx)
            refine WL.bin rfl rfl rfl rfl (str_add _ _ (by omega) _ _ _) ?_
            rw [← flat_snoc hx]
            first | refine WL.assign rfl rfl rfl ?_
            refine WL.done ?_
            refine pn_block ?_
            refine EW.on ?_
            refine EW.region ?_
            first | refine WL.move rfl rfl rfl ?_
            first | refine WL.bin rfl rfl rfl rfl (int_add ‹_› _ _ _) ?_
            first | refine WL.assign rfl rfl rfl ?_
            refine WL.done ?_
            refine EW.again (t + 1) [7, 9, 16, 18, 24, 25, 26] rfl ⟨rfl, by omega⟩ (by show p - (t + 1) < p - t; omega)
          · refine EW.exit ?_
            refine px_then ?_
            refine px_then ?_
            refine px_block ?_
            refine EW.on ?_
            refine EW.seq ?_
            refine EW.region ?_
            first | refine WL.move rfl rfl rfl ?_
            refine WL.nilc rfl rfl rfl ?_
            refine WL.field rfl rfl rfl (fld44 q 2 (by decide) _) ?_
            refine WL.load rfl rfl rfl (ldc3 rbX rfl) ?_
            refine WL.call [.int .i64 (p : Int)] enter11 rfl rfl rfl (need_any (p : Int) _) ?_
            rintro _ wn ⟨rfl, hzn⟩
            rw [hzn, hneed]
            refine ⟨_, rfl, ?_⟩
            refine WL.bin rfl rfl rfl rfl (int_mulc (c := ((512 * (4 * p + 1) : Nat) : Int)) (by rw [IntKind.wrap_i64]; omega) _ _ _) ?_
            first | refine WL.assign rfl rfl rfl ?_
            refine WL.done ?_
            refine EW.on ?_
            refine EW.seq ?_
            refine EW.region ?_
            first | refine WL.move rfl rfl rfl ?_
            first | refine WL.move rfl rfl rfl ?_
            refine WL.len rfl rfl rfl (len9s _ _ _) ?_
            rw [show (zerL (512 * (1 + 2 * p))).length = 512 * (1 + 2 * p) from List.length_replicate]
            first | refine WL.move rfl rfl rfl ?_
            refine WL.slice2 rfl rfl rfl rfl rfl (by rw [sl37]; exact obX.has.cutLH (512 * (1 + 2 * p)) (512 * (4 * p + 1)) (by omega) (by omega) _) ?_
            refine WL.conv rfl rfl rfl (obX.has.cut (512 * (1 + 2 * p)) (512 * (4 * p + 1)) (by omega) (by omega)).convert ?_
            rw [show 512 * (4 * p + 1) - 512 * (1 + 2 * p) = 1024 * p by omega]
            first | refine WL.assign rfl rfl rfl ?_
            refine WL.done ?_
            refine EW.on ?_
            refine EW.seq ?_
            have hte6 : t = p := by omega
            rw [hte6, ← hpsn, List.take_length, hpsn]
            have hfl := flat_len (ps := ps) (fun x hx => by rw [hpsl x hx]; decide)
            have hz1 : (zerL (512 * (1 + 2 * p))).length = 512 * (1 + 2 * p) := List.length_replicate
            have hz2 : (zerL (512 * pickN m 4)).length = 512 * pickN m 4 := List.length_replicate
            have hc1 : (cutL img (512 * (1 + 2 * p)) (1024 * p)).length ≤ 1024 * p := by unfold cutL; rw [List.length_take]; omega
            have hb1 : (zerL (512 * (1 + 2 * p))).length + ps.flatten.length ≤ 9223372036854775807 := by omega
            have hb2 : (zerL (512 * (1 + 2 * p)) ++ ps.flatten).length + (img.drop (512 * (4 * p + 1))).length ≤ 9223372036854775807 := by rw [List.length_append, List.length_drop]; omega
            have hb3 : (zerL (512 * (1 + 2 * p))).length + (cutL img (512 * (1 + 2 * p)) (1024 * p)).length ≤ 9223372036854775807 := by omega
            have hb4 : (zerL (512 * (1 + 2 * p)) ++ cutL img (512 * (1 + 2 * p)) (1024 * p)).length + (zerL (512 * pickN m 4)).length ≤ 9223372036854775807 := by rw [List.length_append]; omega
            refine EW.az (SQ (fun W => Below wj.heap.size wj W)) (levZ [(1, 1, 1), (14, 1, 1), (24, 1, 1), (31, 1, 1), (37, 1, 1)]) (fun W => Below wj.heap.size wj W) 42 (by kernel_rfl) rfl (below_drawn wj) ?_
            refine AZ.seg [(0, 0, 0), (3, 0, 0), (4, 0, 0), (5, 0, 0), (6, 0, 0), (7, 0, 0), (8, 0, 0), (9, 0, 1), (10, 0, 0), (1, 1, 1), (2, 2, 0), (11, 0, 0), (12, 0, 0), (13, 0, 0), (16, 0, 0), (17, 0, 0), (18, 0, 0), (19, 0, 0), (20, 0, 0), (21, 0, 0), (22, 0, 1), (23, 0, 0)] 20 rfl (by kernel_rfl) (sq_anti _) (by kernel_rfl) ?_
            simp only [opsZ, List.getD_cons_zero, List.getD_cons_succ]
            first | refine ZE.move rfl rfl rfl rfl sq0 ?_
            first | refine ZE.move rfl rfl rfl rfl sq0 ?_
            first | refine ZE.move rfl rfl rfl rfl sq0 ?_
            refine ZE.bin rfl rfl rfl rfl rfl sq0 (fun W => str_add _ _ hb1 W _ _) ?_
            first | refine ZE.move rfl rfl rfl rfl sq0 ?_
            first | refine ZE.move rfl rfl rfl rfl sq0 ?_
            refine ZE.sliceL rfl rfl rfl rfl rfl sq0 (fun W => by rw [sl37]; exact obX.has.cutL (512 * (4 * p + 1)) (by omega) W) ?_
            refine ZE.conv rfl rfl rfl rfl (fun W hW => .inr hW) (fun W hW => ((obX.has.cut (512 * (4 * p + 1)) img.length (by omega) (Nat.le_refl _)).below (sq_of hW)).convert) ?_
            rw [List.take_of_length_le (by rw [List.length_drop]; exact Nat.le_refl _)]
            refine ZE.bin rfl rfl rfl rfl rfl sq0 (fun W => str_add _ _ hb2 W _ _) ?_
            refine ZE.callR [.pointer (some ⟨L1.p, 0, none⟩)] (fun v W => Has W v (imgS (4 * p + 1 + pickN m 4) s1) ∧ Below wj.heap.size wj W) enter15 rfl rfl rfl (fun _ _ h => .inr h.2) (fun W hW => by rw [← tO.p]; exact (kimage_any (dX1.below hW)).mono fun e w' ⟨u, g1, g2, g3⟩ => ⟨u, g1, g2.has, hW.trans (g3.mono hW.size)⟩) ?_
            rintro u1 ⟨_, _, _⟩
            refine ZE.conv rfl rfl rfl rfl szC (fun W hW => (szc_of hW).1.convert) ?_
            refine ZE.bin (v := .bool true) rfl rfl rfl rfl rfl sq0 (fun W => by rw [himg1]; exact str_eq _ W _ _) ?_
            first | refine ZE.move rfl rfl rfl rfl sq0 ?_
            first | refine ZE.move rfl rfl rfl rfl sq0 ?_ | refine ZE.skip rfl rfl rfl sq0 ?_
            first | refine ZE.move rfl rfl rfl rfl sq0 ?_ | refine ZE.skip rfl rfl rfl sq0 ?_
            first | refine ZE.move rfl rfl rfl rfl sq0 ?_ | refine ZE.skip rfl rfl rfl sq0 ?_
            refine ZE.bin rfl rfl rfl rfl rfl sq0 (fun W => str_add _ _ hb3 W _ _) ?_
            first | refine ZE.move rfl rfl rfl rfl sq0 ?_ | refine ZE.skip rfl rfl rfl sq0 ?_
            refine ZE.nilc rfl rfl rfl rfl sq0 ?_
            refine ZE.field rfl rfl rfl rfl sq0 (fun W => fld44 q 3 (by decide) W) ?_
            refine ZE.load rfl rfl rfl rfl (fun W hW => .inr hW.2) (fun W hW => ldc3 (rbX.on (sq_of hW)) rfl) ?_
            refine ZE.bin rfl rfl rfl rfl rfl sq0 (fun W => int_mulc (c := ((512 * pickN m 4 : Nat) : Int)) (by rw [IntKind.wrap_i64]; omega) W _ _) ?_
            refine AZ.two 19 14 1 24 1 rfl (by kernel_rfl) ?_ ?_
            · simp only [List.getD_cons_zero, List.getD_cons_succ]
              refine ZE.callR [.pointer (some ⟨L2.p, 0, none⟩)] (fun v W => Has W v (imgS (4 * p + 1 + pickN m 4) s2) ∧ Below wj.heap.size wj W) enter15 rfl rfl rfl (fun _ _ h => .inr h.2) (fun W hW => by rw [← tX.p]; exact (kimage_any (dX.below hW.2)).mono fun e w' ⟨u, g1, g2, g3⟩ => ⟨u, g1, g2.has, hW.2.trans (g3.mono hW.2.size)⟩) ?_
              rintro ui ⟨_, _, _⟩
              refine AZ.strong (SQ (fun W => Below wj.heap.size wj W ∧ Has W ui (imgS (4 * p + 1 + pickN m 4) s2))) (fun n W h => h.imp id And.left) ?_
              refine AZ.seg [(15, 0, 1), (24, 1, 1), (25, 2, 0), (26, 0, 0), (27, 0, 0), (28, 0, 0), (29, 0, 0), (30, 0, 0), (31, 1, 1), (32, 0, 0), (33, 0, 0), (34, 0, 0), (35, 0, 0), (36, 0, 0), (37, 1, 1), (38, 0, 0), (39, 0, 0), (40, 0, 0), (41, 0, 0)] 0 rfl (by kernel_rfl) (sq_anti _) (by kernel_rfl) ?_
              simp only [opsZ, List.getD_cons_zero, List.getD_cons_succ]
              refine ZE.conv rfl rfl rfl rfl (fun W hW => .inr ⟨hW.2, hW.1⟩) (fun W hW => (sq_of hW).2.convert) ?_
              refine ZE.mks (fun v W => Has W v (zerL (512 * pickN m 4)) ∧ Below wj.heap.size wj W ∧ Has W ui (imgS (4 * p + 1 + pickN m 4) s2)) rfl rfl rfl rfl (fun _ _ h => .inr ⟨h.2.1, h.2.2⟩) (fun W hW => by
      obtain ⟨u, w', g1, g2, g3⟩ := mk37z W (512 * pickN m 4) (by omega)
      exact ⟨u, w', g1, g2.has, hW.2.trans (g3.mono hW.2.size), hW.1.below g3⟩) ?_
              rintro um ⟨_, _, _⟩
              refine ZE.conv rfl rfl rfl rfl szC (fun W hW => (szc_of hW).1.convert) ?_
              refine ZE.bin rfl rfl rfl rfl rfl sq0 (fun W => str_add _ _ hb4 W _ _) ?_
              refine ZE.bin (v := .bool true) rfl rfl rfl rfl rfl sq0 (fun W => by rw [himg2]; exact str_eq _ W _ _) ?_
              first | refine ZE.pick rfl rfl rfl rfl rfl sq0 ?_
              first | refine ZE.move rfl rfl rfl rfl sq0 ?_
              first | refine ZE.move rfl rfl rfl rfl sq0 ?_ | refine ZE.skip rfl rfl rfl sq0 ?_
              refine ZE.callR [.pointer (some ⟨L1.p, 0, none⟩)] (fun v W => (∃ ao, v = .slice ao 0 0) ∧ Below wj.heap.size wj W ∧ Has W ui (imgS (4 * p + 1 + pickN m 4) s2)) enter16 rfl rfl rfl (fun _ _ h => .inr h.2) (fun W hW => by rw [← tO.p]; exact (kcache_any (dX1.below hW.2.1)).mono fun e w' ⟨⟨ao, g1⟩, g2⟩ => ⟨_, g1, ⟨ao, rfl⟩, hW.2.1.trans (g2.mono hW.2.1.size), hW.2.2.below g2⟩) ?_
              rintro vc31 ⟨_, ⟨ao31, hvc31⟩, _⟩
              refine ZE.len rfl rfl rfl rfl sq0 (fun W => by rw [hvc31]; exact len49 _ _ _ W _) ?_
              refine ZE.bin rfl rfl rfl rfl rfl sq0 (fun W => int_eq_t rfl W _ _) ?_
              first | refine ZE.pick rfl rfl rfl rfl rfl sq0 ?_
              first | refine ZE.move rfl rfl rfl rfl sq0 ?_
              first | refine ZE.move rfl rfl rfl rfl sq0 ?_ | refine ZE.skip rfl rfl rfl sq0 ?_
              refine ZE.callR [.pointer (some ⟨L2.p, 0, none⟩)] (fun v W => (∃ ao, v = .slice ao 0 0) ∧ Below wj.heap.size wj W ∧ Has W ui (imgS (4 * p + 1 + pickN m 4) s2)) enter16 rfl rfl rfl (fun _ _ h => .inr h.2) (fun W hW => by rw [← tX.p]; exact (kcache_any (dX.below hW.2.1)).mono fun e w' ⟨⟨ao, g1⟩, g2⟩ => ⟨_, g1, ⟨ao, rfl⟩, hW.2.1.trans (g2.mono hW.2.1.size), hW.2.2.below g2⟩) ?_
              rintro vc37 ⟨_, ⟨ao37, hvc37⟩, _⟩
              refine ZE.len rfl rfl rfl rfl sq0 (fun W => by rw [hvc37]; exact len49 _ _ _ W _) ?_
              refine ZE.bin rfl rfl rfl rfl rfl sq0 (fun W => int_eq_t rfl W _ _) ?_
              first | refine ZE.pick rfl rfl rfl rfl rfl sq0 ?_
              first | refine ZE.assign rfl rfl rfl rfl sq0 ?_
              refine AZ.done (by kernel_rfl) ?_
              rintro w9 ⟨_, e9, _⟩
              refine EW.on ?_
              refine EW.ret ?_
              exact EW.returns Try.results4 rfl ⟨rfl, kX.trans (e9.mono kX.size)⟩
            · simp only [List.getD_cons_zero, List.getD_cons_succ]
              refine ZE.mks (fun v W => Has W v (zerL (512 * pickN m 4)) ∧ Below wj.heap.size wj W) rfl rfl rfl rfl (fun _ _ h => .inr h.2) (fun W hW => by
      obtain ⟨u, w', g1, g2, g3⟩ := mk37z W (512 * pickN m 4) (by omega)
      exact ⟨u, w', g1, g2.has, hW.2.trans (g3.mono hW.2.size)⟩) ?_
              rintro um ⟨_, _, _⟩
              refine AZ.strong (SQ (fun W => Below wj.heap.size wj W ∧ Has W um (zerL (512 * pickN m 4)))) (fun n W h => h.imp id And.left) ?_
              refine AZ.seg [(25, 0, 1), (26, 0, 0), (14, 1, 1), (15, 2, 0), (27, 0, 0), (28, 0, 0), (29, 0, 0), (30, 0, 0), (31, 1, 1), (32, 0, 0), (33, 0, 0), (34, 0, 0), (35, 0, 0), (36, 0, 0), (37, 1, 1), (38, 0, 0), (39, 0, 0), (40, 0, 0), (41, 0, 0)] 0 rfl (by kernel_rfl) (sq_anti _) (by kernel_rfl) ?_
              simp only [opsZ, List.getD_cons_zero, List.getD_cons_succ]
              refine ZE.conv rfl rfl rfl rfl (fun W hW => .inr ⟨hW.2, hW.1⟩) (fun W hW => (sq_of hW).2.convert) ?_
              refine ZE.bin rfl rfl rfl rfl rfl sq0 (fun W => str_add _ _ hb4 W _ _) ?_
              refine ZE.callR [.pointer (some ⟨L2.p, 0, none⟩)] (fun v W => Has W v (imgS (4 * p + 1 + pickN m 4) s2) ∧ Below wj.heap.size wj W ∧ Has W um (zerL (512 * pickN m 4))) enter15 rfl rfl rfl (fun _ _ h => .inr ⟨h.2.1, h.2.2⟩) (fun W hW => by rw [← tX.p]; exact (kimage_any (dX.below hW.2)).mono fun e w' ⟨u, g1, g2, g3⟩ => ⟨u, g1, g2.has, hW.2.trans (g3.mono hW.2.size), hW.1.below g3⟩) ?_
              rintro ui ⟨_, _, _⟩
              refine ZE.conv rfl rfl rfl rfl szC (fun W hW => (szc_of hW).1.convert) ?_
              refine ZE.bin (v := .bool true) rfl rfl rfl rfl rfl sq0 (fun W => by rw [himg2]; exact str_eq _ W _ _) ?_
              first | refine ZE.pick rfl rfl rfl rfl rfl sq0 ?_
              first | refine ZE.move rfl rfl rfl rfl sq0 ?_
              first | refine ZE.move rfl rfl rfl rfl sq0 ?_ | refine ZE.skip rfl rfl rfl sq0 ?_
              refine ZE.callR [.pointer (some ⟨L1.p, 0, none⟩)] (fun v W => (∃ ao, v = .slice ao 0 0) ∧ Below wj.heap.size wj W ∧ Has W um (zerL (512 * pickN m 4))) enter16 rfl rfl rfl (fun _ _ h => .inr h.2) (fun W hW => by rw [← tO.p]; exact (kcache_any (dX1.below hW.2.1)).mono fun e w' ⟨⟨ao, g1⟩, g2⟩ => ⟨_, g1, ⟨ao, rfl⟩, hW.2.1.trans (g2.mono hW.2.1.size), hW.2.2.below g2⟩) ?_
              rintro vc31 ⟨_, ⟨ao31, hvc31⟩, _⟩
              refine ZE.len rfl rfl rfl rfl sq0 (fun W => by rw [hvc31]; exact len49 _ _ _ W _) ?_
              refine ZE.bin rfl rfl rfl rfl rfl sq0 (fun W => int_eq_t rfl W _ _) ?_
              first | refine ZE.pick rfl rfl rfl rfl rfl sq0 ?_
              first | refine ZE.move rfl rfl rfl rfl sq0 ?_
              first | refine ZE.move rfl rfl rfl rfl sq0 ?_ | refine ZE.skip rfl rfl rfl sq0 ?_
              refine ZE.callR [.pointer (some ⟨L2.p, 0, none⟩)] (fun v W => (∃ ao, v = .slice ao 0 0) ∧ Below wj.heap.size wj W ∧ Has W um (zerL (512 * pickN m 4))) enter16 rfl rfl rfl (fun _ _ h => .inr h.2) (fun W hW => by rw [← tX.p]; exact (kcache_any (dX.below hW.2.1)).mono fun e w' ⟨⟨ao, g1⟩, g2⟩ => ⟨_, g1, ⟨ao, rfl⟩, hW.2.1.trans (g2.mono hW.2.1.size), hW.2.2.below g2⟩) ?_
              rintro vc37 ⟨_, ⟨ao37, hvc37⟩, _⟩
              refine ZE.len rfl rfl rfl rfl sq0 (fun W => by rw [hvc37]; exact len49 _ _ _ W _) ?_
              refine ZE.bin rfl rfl rfl rfl rfl sq0 (fun W => int_eq_t rfl W _ _) ?_
              first | refine ZE.pick rfl rfl rfl rfl rfl sq0 ?_
              first | refine ZE.assign rfl rfl rfl rfl sq0 ?_
              refine AZ.done (by kernel_rfl) ?_
              rintro w9 ⟨_, e9, _⟩
              refine EW.on ?_
              refine EW.ret ?_
              exact EW.returns Try.results4 rfl ⟨rfl, kX.trans (e9.mono kX.size)⟩
end Go.Proofs.Ythlpfpggjkocmaa
