import Derived.Test.YtnakeieeopbeiaaGe
set_option linter.unusedVariables false
set_option linter.unusedSimpArgs false
namespace Go.Proofs.Ytnakeieeopbeiaa
open Go.RowKit

def r1E (n : Nat) (y : List Nat × Value) : List (Nat × Value) := [(0, y.2), (2, .pointer (some ⟨n, 0, none⟩))]
def R1R (n : Nat) (ds : List Nat) (w : World) (y : List Nat × Value) (w' : World) : Prop := Dig w' y.2 y.1 ∧ 16 ≤ y.1.length ∧ y.1.length ≤ 36 ∧ (∀ j, y.1.getD j 0 < 1125899906842624) ∧ nV y.1 % PP = nV ds % PP ∧ Blk w' n (dv z16) 49 ∧ Below n w w'
def r2E (n q : Nat) (v : Value) (t : Nat) : List (Nat × Value) := [(0, v), (2, .pointer (some ⟨n, 0, none⟩)), (3, .pointer (some ⟨q, 0, none⟩)), (4, .int .i64 (t : Int))]
def R2R (n q : Nat) (d : List Nat) (wr : World) (t : Nat) (w' : World) : Prop := t ≤ 16 ∧ Blk w' q (dv (cpD d t)) 49 ∧ Blk w' n (dv z16) 49 ∧ Below q wr w'
def r3E (n q r : Nat) (_ : List Nat) : List (Nat × Value) := [(2, .pointer (some ⟨n, 0, none⟩)), (3, .pointer (some ⟨q, 0, none⟩)), (5, .pointer (some ⟨r, 0, none⟩))]
def R3R (n q r : Nat) (ds : List Nat) (w : World) (m : List Nat) (w' : World) : Prop := m.length = 16 ∧ (∀ j, m.getD j 0 < 65536) ∧ dpre m 16 % PP = nV ds % PP ∧ Blk w' n (dv z16) 49 ∧ Blk w' q (dv m) 49 ∧ Blk w' r (dv primeD) 49 ∧ Below n w w'
theorem mns_aux {a p m X b : Nat} (h1 : a + p = m + b * X) (h2 : a < X) (h3 : b ≤ 1) (h : ¬ m < p) : a + p = m := by
  have h5 : b = 0 ∨ b = 1 := by omega
  rcases h5 with e | e
  · rw [e] at h1; omega
  · rw [e] at h1; omega
theorem minD_less {m : List Nat} (hm : m.length = 16) (hd : ∀ j, m.getD j 0 < 65536) (h : ¬ dpre m 16 < PP) : dpre (minD m primeD 16) 16 + PP = dpre m 16 := by
  have h1 := minD_val hd primeD_dig 16 (by omega)
  rw [primeD_val] at h1
  have h2 := dpre_lt (minD_digits hd primeD_dig 16) 16
  have h3 := borD_le m primeD 16
  exact mns_aux h1 h2 h3 h
theorem ge15 {a : Nat} (h : 32768 ≤ a) : (32768 : Int) ≤ (a : Int) := by omega
theorem lt15 {a : Nat} (h : ¬ 32768 ≤ a) : ¬ (32768 : Int) ≤ (a : Int) := by omega
set_option maxRecDepth 100000 in
set_option maxHeartbeats 1000000 in
theorem reduced_law (v : Value) (ds : List Nat) (w : World) (hv : Dig w v ds) (h16 : 16 ≤ ds.length) (hl : ds.length ≤ 36) (hd : ∀ j, ds.getD j 0 < 1125899906842624) : Calls Try.prog 46 #[v] w fun e w' => e = .returned (.agg (dv (numD (nV ds % PP))).toArray) ∧ Below w.heap.size w w' := by
  obtain ⟨n, hn⟩ : ∃ n, w.heap.size = n := ⟨_, rfl⟩
  have hnew := new49 w
  have hb1 := Blk.new w (dv z16) 49
  have be1 : Below w.heap.size w (w.alloc (.cells (dv z16).toArray 49)) := below_new _ _
  have hv1 := hv.on be1
  rw [hn] at hnew hb1 be1
  rw [hn]
  refine calls_of_args [v] Try.func46 rfl 48 Try.ntmps46 (by show 1 ≤ 48; decide) ?_
  refine EW.seq ?_
  refine EW.region ?_
  refine WL.new rfl rfl hnew ?_
  refine WL.done ?_
  refine EW.on ?_
  refine EW.seq ?_
  refine EW.block ?_
  refine EW.loop (r1E n) (R1R n ds w) (fun y => muD y.1) (ds, v) [0, 2] rfl ⟨hv1, h16, hl, hd, rfl, hb1, be1⟩ ?_
  clear hv1 hb1 be1 hnew
  rintro ⟨d, vt⟩ wr ⟨hvt, hd16, hd36, hdd, hmod, hbn, hbe⟩
  have hvt : Dig wr vt d := hvt
  have hd16 : 16 ≤ d.length := hd16
  have hd36 : d.length ≤ 36 := hd36
  have hdd : ∀ j, d.getD j 0 < 1125899906842624 := hdd
  have hmod : nV d % PP = nV ds % PP := hmod
  have hnr := hbn.lt
  have hlen : ∀ W ty, (Builtin.len_ #[78] ty #[vt]).run Try.prog W = .ok (.int .i64 (d.length : Int)) W := fun W ty => by
    obtain ⟨g, cap, hve, _⟩ := hvt
    rw [hve]; exact len78 _ _ _ _ _
  have hcars := carries_any vt d (by omega) wr hvt
  have hcarr := carried_law vt d wr hvt hd16 (by omega) hdd
  show EW _ _ _ _ [(0, vt), (2, .pointer (some ⟨n, 0, none⟩))] _
  by_cases h1 : 16 < d.length
  · have z1 : (16 : Int) < (d.length : Int) := by omega
    refine EW.seq ?_
    refine EW.seq ?_
    refine EW.region ?_
    first | refine WL.move rfl rfl rfl ?_
    refine WL.len rfl rfl rfl (hlen _ _) ?_
    refine WL.bin rfl rfl rfl rfl (int_gt_t z1 _ _ _) ?_
    first | refine WL.move rfl rfl rfl ?_
    refine WL.skip _ rfl rfl rfl ?_
    refine WL.skip _ rfl rfl rfl ?_
    first | refine WL.pick rfl rfl rfl rfl ?_
    refine WL.done ?_
    refine EW.on ?_
    refine EW.cond_t rfl ?_
    refine EW.skip ?_
    refine EW.on ?_
    refine EW.block ?_
    refine EW.seq ?_
    refine EW.region ?_
    first | refine WL.move rfl rfl rfl ?_
    refine WL.call [vt] enter54 rfl rfl rfl hcarr ?_
    rintro x w2 ⟨v', L, rfl, hL, hL4, hcz, hmin, hown, hb2⟩
    refine ⟨_, rfl, ?_⟩
    first | refine WL.assign rfl rfl rfl ?_
    refine WL.done ?_
    refine EW.on ?_
    have hcl := crO_length d L
    have hlo := own_len hown
    rw [hcl] at hlo
    have hdg := own_dig hown (by omega)
    obtain ⟨g', cap', hve', _, hcl', _, _⟩ := own_parts hown (by omega)
    have h15 := hcl' 15 (by omega)
    have hix : ∀ V, (Instr.indexAt 78 v' (.int .i64 15)).run Try.prog V = .ok (.pointer (some ⟨g', 15, none⟩)) V := fun V => by rw [hve']; exact idx78 g' _ _ 15 (by omega) V
    have hbn2 := hbn.on hb2
    have hbe2 : Below n w w2 := hbe.trans (hb2.mono (by omega))
    have hw2 := hbn2.lt
    have hfold := folded_law v' (crO d L) w2 hdg (by omega) (by omega) (cr_dig d L)
    have hsame := cr_same d L hL hcz
    by_cases hL16 : 16 < L
    · have z3 : (16 : Int) < (L : Int) := by omega
      have HF : 16 < L ∨ 32768 ≤ (crO d L).getD 15 0 := .inl hL16
      have hred := red_fold hd16 hd36 hL hL4 hcz hmin HF
      refine EW.seq ?_
      refine EW.region ?_
      first | refine WL.move rfl rfl rfl ?_
      refine WL.len rfl rfl rfl (hlo _ _) ?_
      refine WL.bin rfl rfl rfl rfl (int_gt_t z3 _ _ _) ?_
      first | refine WL.move rfl rfl rfl ?_
      refine WL.skip _ rfl rfl rfl ?_
      refine WL.skip _ rfl rfl rfl ?_
      refine WL.skip _ rfl rfl rfl ?_
      refine WL.skip _ rfl rfl rfl ?_
      first | refine WL.pick rfl rfl rfl rfl ?_
      refine WL.done ?_
      refine EW.on ?_
      refine EW.cond_t rfl ?_
      refine EW.region ?_
      first | refine WL.move rfl rfl rfl ?_
      refine WL.call [v'] enter55 rfl rfl rfl hfold ?_
      rintro x w3 ⟨v3, rfl, hown3, hb3⟩
      refine ⟨_, rfl, ?_⟩
      first | refine WL.assign rfl rfl rfl ?_
      refine WL.done ?_
      have hfl : (foD (crO d L)).length = max 16 (L - 16) := by unfold foD; rw [hcl]; exact foT_length _ (by omega) _
      have hdg3 := own_dig hown3 (by omega)
      refine pn_block ?_
      refine EW.again (E := r1E n) (R := R1R n ds w) (m := fun y => muD y.1) (x := (d, vt)) (foD (crO d L), v3) [0, 2] rfl ⟨hdg3, ?_, ?_, fun j => ?_, ?_, hbn2.on hb3, hbe2.trans (hb3.mono (by omega))⟩ hred.1
      · show 16 ≤ (foD (crO d L)).length
        omega
      · show (foD (crO d L)).length ≤ 36
        omega
      · have := foT_dig (crO d L) (by omega) (cr_dig d L) ((crO d L).length - 16) j
        have h7 : (if j < (crO d L).length - 16 then 38 * 65535 else 0) ≤ 38 * 65535 := by split <;> omega
        show (foT (crO d L) ((crO d L).length - 16)).getD j 0 < _
        omega
      · show nV (foD (crO d L)) % PP = _
        rw [hred.2, hmod]
    · have z3 : ¬ (16 : Int) < (L : Int) := by omega
      omega
  · have z1 : ¬ (16 : Int) < (d.length : Int) := by omega
    cases hcs : carsD d with
    | true =>
      rw [hcs] at hcars
      refine EW.seq ?_
      refine EW.seq ?_
      refine EW.region ?_
      first | refine WL.move rfl rfl rfl ?_
      refine WL.len rfl rfl rfl (hlen _ _) ?_
      refine WL.bin rfl rfl rfl rfl (int_gt_f z1 _ _ _) ?_
      first | refine WL.move rfl rfl rfl ?_
      first | refine WL.move rfl rfl rfl ?_ | refine WL.skip _ rfl rfl rfl ?_
      refine WL.call [vt] enter53 rfl rfl rfl hcars ?_
      rintro x wy ⟨rfl, hwy⟩
      rw [hwy]
      refine ⟨_, rfl, ?_⟩
      first | refine WL.pick rfl rfl rfl rfl ?_
      refine WL.done ?_
      refine EW.on ?_
      refine EW.cond_t rfl ?_
      refine EW.skip ?_
      refine EW.on ?_
      refine EW.block ?_
      refine EW.seq ?_
      refine EW.region ?_
      first | refine WL.move rfl rfl rfl ?_
      refine WL.call [vt] enter54 rfl rfl rfl hcarr ?_
      rintro x w2 ⟨v', L, rfl, hL, hL4, hcz, hmin, hown, hb2⟩
      refine ⟨_, rfl, ?_⟩
      first | refine WL.assign rfl rfl rfl ?_
      refine WL.done ?_
      refine EW.on ?_
      have hcl := crO_length d L
      have hlo := own_len hown
      rw [hcl] at hlo
      have hdg := own_dig hown (by omega)
      obtain ⟨g', cap', hve', _, hcl', _, _⟩ := own_parts hown (by omega)
      have h15 := hcl' 15 (by omega)
      have hix : ∀ V, (Instr.indexAt 78 v' (.int .i64 15)).run Try.prog V = .ok (.pointer (some ⟨g', 15, none⟩)) V := fun V => by rw [hve']; exact idx78 g' _ _ 15 (by omega) V
      have hbn2 := hbn.on hb2
      have hbe2 : Below n w w2 := hbe.trans (hb2.mono (by omega))
      have hw2 := hbn2.lt
      have hfold := folded_law v' (crO d L) w2 hdg (by omega) (by omega) (cr_dig d L)
      have hsame := cr_same d L hL hcz
      by_cases hL16 : 16 < L
      · have z3 : (16 : Int) < (L : Int) := by omega
        have HF : 16 < L ∨ 32768 ≤ (crO d L).getD 15 0 := .inl hL16
        have hred := red_fold hd16 hd36 hL hL4 hcz hmin HF
        refine EW.seq ?_
        refine EW.region ?_
        first | refine WL.move rfl rfl rfl ?_
        refine WL.len rfl rfl rfl (hlo _ _) ?_
        refine WL.bin rfl rfl rfl rfl (int_gt_t z3 _ _ _) ?_
        first | refine WL.move rfl rfl rfl ?_
        refine WL.skip _ rfl rfl rfl ?_
        refine WL.skip _ rfl rfl rfl ?_
        refine WL.skip _ rfl rfl rfl ?_
        refine WL.skip _ rfl rfl rfl ?_
        first | refine WL.pick rfl rfl rfl rfl ?_
        refine WL.done ?_
        refine EW.on ?_
        refine EW.cond_t rfl ?_
        refine EW.region ?_
        first | refine WL.move rfl rfl rfl ?_
        refine WL.call [v'] enter55 rfl rfl rfl hfold ?_
        rintro x w3 ⟨v3, rfl, hown3, hb3⟩
        refine ⟨_, rfl, ?_⟩
        first | refine WL.assign rfl rfl rfl ?_
        refine WL.done ?_
        have hfl : (foD (crO d L)).length = max 16 (L - 16) := by unfold foD; rw [hcl]; exact foT_length _ (by omega) _
        have hdg3 := own_dig hown3 (by omega)
        refine pn_block ?_
        refine EW.again (E := r1E n) (R := R1R n ds w) (m := fun y => muD y.1) (x := (d, vt)) (foD (crO d L), v3) [0, 2] rfl ⟨hdg3, ?_, ?_, fun j => ?_, ?_, hbn2.on hb3, hbe2.trans (hb3.mono (by omega))⟩ hred.1
        · show 16 ≤ (foD (crO d L)).length
          omega
        · show (foD (crO d L)).length ≤ 36
          omega
        · have := foT_dig (crO d L) (by omega) (cr_dig d L) ((crO d L).length - 16) j
          have h7 : (if j < (crO d L).length - 16 then 38 * 65535 else 0) ≤ 38 * 65535 := by split <;> omega
          show (foT (crO d L) ((crO d L).length - 16)).getD j 0 < _
          omega
        · show nV (foD (crO d L)) % PP = _
          rw [hred.2, hmod]
      · have z3 : ¬ (16 : Int) < (L : Int) := by omega
        by_cases h32 : 32768 ≤ (crO d L).getD 15 0
        · have HF : 16 < L ∨ 32768 ≤ (crO d L).getD 15 0 := .inr h32
          have hred := red_fold hd16 hd36 hL hL4 hcz hmin HF
          refine EW.seq ?_
          refine EW.region ?_
          first | refine WL.move rfl rfl rfl ?_
          refine WL.len rfl rfl rfl (hlo _ _) ?_
          refine WL.bin rfl rfl rfl rfl (int_gt_f z3 _ _ _) ?_
          first | refine WL.move rfl rfl rfl ?_
          first | refine WL.move rfl rfl rfl ?_ | refine WL.skip _ rfl rfl rfl ?_
          refine WL.index rfl rfl rfl rfl (hix _) ?_
          refine WL.load rfl rfl rfl (ld3 h15) ?_
          refine WL.bin rfl rfl rfl rfl (int_ge_t (ge15 h32) _ _ _) ?_
          first | refine WL.pick rfl rfl rfl rfl ?_
          refine WL.done ?_
          refine EW.on ?_
          refine EW.cond_t rfl ?_
          refine EW.region ?_
          first | refine WL.move rfl rfl rfl ?_
          refine WL.call [v'] enter55 rfl rfl rfl hfold ?_
          rintro x w3 ⟨v3, rfl, hown3, hb3⟩
          refine ⟨_, rfl, ?_⟩
          first | refine WL.assign rfl rfl rfl ?_
          refine WL.done ?_
          have hfl : (foD (crO d L)).length = max 16 (L - 16) := by unfold foD; rw [hcl]; exact foT_length _ (by omega) _
          have hdg3 := own_dig hown3 (by omega)
          refine pn_block ?_
          refine EW.again (E := r1E n) (R := R1R n ds w) (m := fun y => muD y.1) (x := (d, vt)) (foD (crO d L), v3) [0, 2] rfl ⟨hdg3, ?_, ?_, fun j => ?_, ?_, hbn2.on hb3, hbe2.trans (hb3.mono (by omega))⟩ hred.1
          · show 16 ≤ (foD (crO d L)).length
            omega
          · show (foD (crO d L)).length ≤ 36
            omega
          · have := foT_dig (crO d L) (by omega) (cr_dig d L) ((crO d L).length - 16) j
            have h7 : (if j < (crO d L).length - 16 then 38 * 65535 else 0) ≤ 38 * 65535 := by split <;> omega
            show (foT (crO d L) ((crO d L).length - 16)).getD j 0 < _
            omega
          · show nV (foD (crO d L)) % PP = _
            rw [hred.2, hmod]
        · have hred := red_stay hd16 hL hcz hL16 h32 hcs
          refine EW.seq ?_
          refine EW.region ?_
          first | refine WL.move rfl rfl rfl ?_
          refine WL.len rfl rfl rfl (hlo _ _) ?_
          refine WL.bin rfl rfl rfl rfl (int_gt_f z3 _ _ _) ?_
          first | refine WL.move rfl rfl rfl ?_
          first | refine WL.move rfl rfl rfl ?_ | refine WL.skip _ rfl rfl rfl ?_
          refine WL.index rfl rfl rfl rfl (hix _) ?_
          refine WL.load rfl rfl rfl (ld3 h15) ?_
          refine WL.bin rfl rfl rfl rfl (int_ge_f (lt15 h32) _ _ _) ?_
          first | refine WL.pick rfl rfl rfl rfl ?_
          refine WL.done ?_
          refine EW.on ?_
          refine EW.cond_f rfl ?_
          refine EW.skip ?_
          refine pn_block ?_
          refine EW.again (E := r1E n) (R := R1R n ds w) (m := fun y => muD y.1) (x := (d, vt)) (crO d L, v') [0, 2] rfl ⟨hdg, by show 16 ≤ (crO d L).length; omega, by show (crO d L).length ≤ 36; omega, fun j => by have := cr_dig d L j; show (crO d L).getD j 0 < _; omega, by show nV (crO d L) % PP = _; rw [hsame, hmod], hbn2, hbe2⟩ hred
    | false =>
      rw [hcs] at hcars
      have hd6 : d.length = 16 := by omega
      have hcs2 := hcs
      unfold carsD at hcs2
      rw [Bool.or_eq_false_iff] at hcs2
      have hdl : ∀ j, d.getD j 0 < 65536 := fun j => by
        rcases Nat.lt_or_ge j d.length with e | e
        · exact carD_false d _ hcs2.1 j e
        · rw [getD_past e]; decide
      refine EW.seq ?_
      refine EW.seq ?_
      refine EW.region ?_
      first | refine WL.move rfl rfl rfl ?_
      refine WL.len rfl rfl rfl (hlen _ _) ?_
      refine WL.bin rfl rfl rfl rfl (int_gt_f z1 _ _ _) ?_
      first | refine WL.move rfl rfl rfl ?_
      first | refine WL.move rfl rfl rfl ?_ | refine WL.skip _ rfl rfl rfl ?_
      refine WL.call [vt] enter53 rfl rfl rfl hcars ?_
      rintro x wy ⟨rfl, hwy⟩
      rw [hwy]
      refine ⟨_, rfl, ?_⟩
      first | refine WL.pick rfl rfl rfl rfl ?_
      refine WL.done ?_
      refine EW.on ?_
      refine EW.cond_f rfl ?_
      refine EW.exit ?_
      repeat refine px_then ?_
      refine px_block ?_
      refine EW.on ?_
      obtain ⟨q, hq⟩ : ∃ q, wr.heap.size = q := ⟨_, rfl⟩
      have hnew := new49 wr
      have hbq := Blk.new wr (dv z16) 49
      have beq : Below wr.heap.size wr (wr.alloc (.cells (dv z16).toArray 49)) := below_new _ _
      have hbn2 := hbn.on beq
      obtain ⟨g, cap, hve, hg2, hg3, hg4⟩ := hvt
      have hix : ∀ t, t < d.length → ∀ V, (Instr.indexAt 78 vt (.int .i64 (t : Int))).run Try.prog V = .ok (.pointer (some ⟨g, t, none⟩)) V := fun t h V => by rw [hve]; exact idx78 g _ _ t h V
      rw [hq] at hnew hbq beq hg3 hnr
      refine EW.seq ?_
      refine EW.region ?_
      refine WL.new rfl rfl hnew ?_
      refine WL.done ?_
      refine EW.on ?_
      refine EW.seq ?_
      refine EW.seq ?_
      refine EW.region ?_
      first | refine WL.assign rfl rfl rfl ?_
      refine WL.done ?_
      refine EW.on ?_
      refine EW.block ?_
      refine EW.loop (r2E n q vt) (R2R n q d wr) (fun t => 16 - t) 0 [0, 2, 3, 4] rfl ⟨by omega, hbq, hbn2, beq⟩ ?_
      clear hbq hbn2 beq hnew
      rintro t wt ⟨ht, hbq, hbn2, beq⟩
      show EW _ _ _ _ [(0, vt), (2, .pointer (some ⟨n, 0, none⟩)), (3, .pointer (some ⟨q, 0, none⟩)), (4, .int .i64 (t : Int))] _
      by_cases h2 : t < 16
      · have z2 : (t : Int) < (d.length : Int) := by omega
        have tn := tnD t (by omega)
        have hct : wt.cell? ⟨g, t, none⟩ = some (.int .i64 ((d.getD t 0 : Nat) : Int)) := (beq.cell hg3).trans (hg4 t (by omega))
        have hcp := cpD_length d t hd16 ht
        have hcn : wt.cell? ⟨q, t, none⟩ = some (.int .i64 (((cpD d t).getD t 0 : Nat) : Int)) := (hbq.cell t).trans (dv_at _ t (by omega))
        have hst := st3 (z := ((d.getD t 0 : Nat) : Int)) hcn (hbq.frozen t)
        have hb4 := hbq.set t (.int .i64 ((d.getD t 0 : Nat) : Int))
        rw [dv_set, ← cpD_next d t hd16 h2] at hb4
        have be4 := beq.trans ((Fx.setCell (S := fun k => k = q) wt q t (.int .i64 ((d.getD t 0 : Nat) : Int)) rfl).below (B := q) (fun k hk e => by omega) (by have := hbq.lt; omega))
        refine EW.seq ?_
        refine EW.seq ?_
        refine EW.region ?_
        first | refine WL.move rfl rfl rfl ?_
        first | refine WL.move rfl rfl rfl ?_
        refine WL.len rfl rfl rfl (hlen _ _) ?_
        refine WL.bin rfl rfl rfl rfl (int_lt_t z2 _ _ _) ?_
        refine WL.done ?_
        refine EW.on ?_
        refine EW.cond_t rfl ?_
        refine EW.skip ?_
        refine EW.on ?_
        refine EW.seq ?_
        refine EW.block ?_
        refine EW.region ?_
        first | refine WL.move rfl rfl rfl ?_
        first | refine WL.move rfl rfl rfl ?_
        first | refine WL.move rfl rfl rfl ?_
        refine WL.index rfl rfl rfl rfl (hix t (by omega) _) ?_
        refine WL.load rfl rfl rfl (ld3 hct) ?_
        refine WL.index rfl rfl rfl rfl (idx49 q t h2 _) ?_
        refine WL.store rfl rfl rfl hst ?_
        refine WL.done ?_
        refine pn_block ?_
        refine EW.on ?_
        refine EW.region ?_
        first | refine WL.move rfl rfl rfl ?_
        first | refine WL.bin rfl rfl rfl rfl (int_add ‹_› _ _ _) ?_
        first | refine WL.assign rfl rfl rfl ?_
        refine WL.done ?_
        refine EW.again (E := r2E n q vt) (R := R2R n q d wr) (m := fun t => 16 - t) (x := t) (t + 1) [0, 2, 3, 4] rfl ⟨by omega, hb4, hbn2.setOther _ _ _ (by omega), be4⟩ (by show 16 - (t + 1) < 16 - t; omega)
      · have z2 : ¬ (t : Int) < (d.length : Int) := by omega
        obtain rfl : t = 16 := by omega
        rw [cpD_end, List.take_of_length_le (by omega)] at hbq
        have hbw : Below n w wt := hbe.trans (beq.mono (by omega))
        have hpr := primeD_any wt
        have hmv : dpre d 16 % PP = nV ds % PP := by rw [← hmod]; unfold nV; rw [hd6]
        refine EW.seq ?_
        refine EW.seq ?_
        refine EW.region ?_
        first | refine WL.move rfl rfl rfl ?_
        first | refine WL.move rfl rfl rfl ?_
        refine WL.len rfl rfl rfl (hlen _ _) ?_
        refine WL.bin rfl rfl rfl rfl (int_lt_f z2 _ _ _) ?_
        refine WL.done ?_
        refine EW.on ?_
        refine EW.cond_f rfl ?_
        refine EW.exit ?_
        repeat refine px_then ?_
        refine px_block ?_
        refine EW.on ?_
        refine EW.seq ?_
        refine EW.region ?_
        refine WL.call [] enter48 rfl rfl rfl hpr ?_
        rintro x w5 ⟨rfl, hb5⟩
        refine ⟨_, rfl, ?_⟩
        obtain ⟨r, hr⟩ : ∃ r, w5.heap.size = r := ⟨_, rfl⟩
        have hqt := hbq.lt
        have hs5 := hb5.size
        have hnew := new49 w5
        have hbr := Blk.new w5 (dv z16) 49
        have ber : Below w5.heap.size w5 (w5.alloc (.cells (dv z16).toArray 49)) := below_new _ _
        have hbn6 := (hbn2.on hb5).on ber
        have hbq6 := (hbq.on hb5).on ber
        have hbw6 := (hbw.trans (hb5.mono (by omega))).trans (ber.mono (by omega))
        have hst := st49 z16_length primeD_length hbr
        rw [hr] at hnew hbr hst
        have hbr7 := hbr.setRow (dv primeD)
        have hbw7 := below_setRow hbw6 r (dv primeD).toArray (by omega)
        have hbn7 := hbn6.setRowOther r (dv primeD).toArray (by omega)
        have hbq7 := hbq6.setRowOther r (dv primeD).toArray (by omega)
        refine WL.new rfl rfl hnew ?_
        refine WL.store rfl rfl rfl hst ?_
        refine WL.done ?_
        refine EW.on ?_
        refine EW.block ?_
        refine EW.loop (r3E n q r) (R3R n q r ds w) (fun m => dpre m 16) d [2, 3, 5] rfl ⟨hd6, hdl, hmv, hbn7, hbq7, hbr7, hbw7⟩ ?_
        clear hbr7 hbw7 hbn7 hbq7 hst hnew hbr ber hbn6 hbq6 hbw6
        rintro m wm ⟨hm, hdm, hmm, hbn8, hbq8, hbr8, hbw8⟩
        show EW _ _ _ _ [(2, .pointer (some ⟨n, 0, none⟩)), (3, .pointer (some ⟨q, 0, none⟩)), (5, .pointer (some ⟨r, 0, none⟩))] _
        have hless := less_any m primeD hm primeD_length wm
        rw [less_val hdm primeD_dig, primeD_val] at hless
        have hrl := hbr8.lt
        refine EW.block ?_
        refine EW.seq ?_
        by_cases h3 : dpre m 16 < PP
        · rw [decide_eq_true h3] at hless
          refine EW.region ?_
          refine WL.load rfl rfl rfl (ld49 hm hbq8) ?_
          refine WL.load rfl rfl rfl (ld49 primeD_length hbr8) ?_
          refine WL.call [.agg (dv m).toArray, .agg (dv primeD).toArray] enter47 rfl rfl rfl hless ?_
          rintro x w9 ⟨rfl, hb9⟩
          refine ⟨_, rfl, ?_⟩
          first | refine WL.assign rfl rfl rfl ?_
          refine WL.done ?_
          refine EW.on ?_
          refine EW.seq ?_
          refine EW.seq ?_
          refine EW.region ?_
          first | refine WL.move rfl rfl rfl ?_
          refine WL.done ?_
          refine EW.on ?_
          have hbn9 := hbn8.on hb9
          have hbq9 := hbq8.on hb9
          have hbr9 := hbr8.on hb9
          have hs9 := hb9.size
          have hbw9 := hbw8.trans (hb9.mono (by omega))
          refine EW.cond_t rfl ?_
          have hst := st49 z16_length hm hbn9
          have hres : m = numD (nV ds % PP) := by
            rw [← hmm, Nat.mod_eq_of_lt h3]
            exact num_unique hm hdm
          refine EW.seq ?_
          refine EW.region ?_
          refine WL.load rfl rfl rfl (ld49 hm hbq9) ?_
          refine WL.store rfl rfl rfl hst ?_
          refine WL.done ?_
          refine EW.on ?_
          refine EW.ret ?_
          repeat (first | refine pr_then ?_ | refine pr_block ?_)
          exact EW.returnsC Try.results46 rfl (hbn9.setRow (dv m)) Try.underlying49 rfl (info49 hm) ⟨by rw [← hres], below_setRow hbw9 n _ (Nat.le_refl _)⟩
        · rw [decide_eq_false h3] at hless
          refine EW.region ?_
          refine WL.load rfl rfl rfl (ld49 hm hbq8) ?_
          refine WL.load rfl rfl rfl (ld49 primeD_length hbr8) ?_
          refine WL.call [.agg (dv m).toArray, .agg (dv primeD).toArray] enter47 rfl rfl rfl hless ?_
          rintro x w9 ⟨rfl, hb9⟩
          refine ⟨_, rfl, ?_⟩
          first | refine WL.assign rfl rfl rfl ?_
          refine WL.done ?_
          refine EW.on ?_
          refine EW.seq ?_
          refine EW.seq ?_
          refine EW.region ?_
          first | refine WL.move rfl rfl rfl ?_
          refine WL.done ?_
          refine EW.on ?_
          have hbn9 := hbn8.on hb9
          have hbq9 := hbq8.on hb9
          have hbr9 := hbr8.on hb9
          have hs9 := hb9.size
          have hbw9 := hbw8.trans (hb9.mono (by omega))
          refine EW.cond_f rfl ?_
          refine EW.skip ?_
          refine EW.on ?_
          have hmi := minus_any m primeD hm primeD_length hdm primeD_dig w9
          have hml := minD_less hm hdm h3
          have hmL : (minD m primeD 16).length = 16 := by rw [minD_length]; exact hm
          have hP0 : 0 < PP := by decide
          refine EW.region ?_
          refine WL.load rfl rfl rfl (ld49 hm hbq9) ?_
          refine WL.load rfl rfl rfl (ld49 primeD_length hbr9) ?_
          refine WL.call [.agg (dv m).toArray, .agg (dv primeD).toArray] enter56 rfl rfl rfl hmi ?_
          rintro x w10 ⟨rfl, hb10⟩
          refine ⟨_, rfl, ?_⟩
          refine WL.store rfl rfl rfl (st49 hm hmL (hbq9.on hb10)) ?_
          refine WL.done ?_
          refine pn_block ?_
          refine EW.again (E := r3E n q r) (R := R3R n q r ds w) (m := fun m => dpre m 16) (x := m) (minD m primeD 16) [2, 3, 5] rfl ⟨hmL, minD_digits hdm primeD_dig 16, ?_, (hbn9.on hb10).setRowOther _ _ (by omega), (hbq9.on hb10).setRow _, (hbr9.on hb10).setRowOther _ _ (by omega), below_setRow (hbw9.trans (hb10.mono (by omega))) q _ (by omega)⟩ (by show dpre (minD m primeD 16) 16 < dpre m 16; omega)
          rw [← hmm, ← hml, Nat.add_mod_right]
end Go.Proofs.Ytnakeieeopbeiaa
