import Derived.Test.YthfcabhelldokaaAv
import Derived.Test.YthfcabhelldokaaEo
set_option linter.unusedVariables false
set_option linter.unusedSimpArgs false
namespace Go.Proofs.Ythfcabhelldokaa
open Go.RowKit

theorem k2_facts (k1 : Nat) (h : k1 < 12) : IntKind.i64.wrap (1 + (k1 : Int)) = ((1 + k1 : Nat) : Int) := by rw [IntKind.wrap_i64]; omega
theorem k2_range (k1 k2 : Nat) (h : k1 < 12) (e : 1 + k1 = k2) : 1 ≤ k2 ∧ k2 ≤ 12 := by omega
theorem nb_facts (t m n k : Nat) (h1 : t < n) (h2 : t < 200) (h3 : 0 < k) (h4 : k ≤ 12) (h5 : t + 1 = m) : m ≤ n ∧ m ≤ 200 ∧ t < m ∧ t < 200 ∧ k ≤ 12 ∧ 0 < k := by omega
theorem tn_facts (t : Nat) (h2 : t < 200) : IntKind.i64.wrap ((t : Int) + 1) = ((t + 1 : Nat) : Int) := by rw [IntKind.wrap_i64]; omega
theorem kn_facts (k : Nat) (h1 : 0 < k) (h2 : k ≤ 12) : IntKind.i64.wrap ((k : Int) - 1) = ((k - 1 : Nat) : Int) := by rw [IntKind.wrap_i64]; omega
theorem pred_le (k : Nat) (h : k ≤ 12) : k - 1 ≤ 12 := by omega
theorem chg_of (s : Stp) (n1 : ¬ s.kind = 1) (n9 : ¬ s.kind = 9) (h : s.kind = 4 ∨ pickN s.i 5 < 4) : chg s = true := by simp [chg, n1, n9, h]
theorem quiet_of (s : Stp) (h : s.kind = 1 ∨ s.kind = 9 ∨ (¬ s.kind = 4 ∧ ¬ pickN s.i 5 < 4)) : chg s = false := by
  rcases h with h | h | h <;> simp [chg, h]
theorem meas (t : Nat) (h2 : t < 200) : 200 - (t + 1) < 200 - t := by omega
theorem Below.via {B : Nat} {w w1 w2 : World} (h : Below w.heap.size w w1) (k : Below w1.heap.size w1 w2) : Below w.heap.size w w2 := h.trans (k.mono h.size)

def armE (sv : Value) (g0 p q : Nat) (x : Nat × Nat) : List (Nat × Value) := [(0, sv), (1, .int .i64 (x.2 : Int)), (5, .pointer (some ⟨g0, 0, none⟩)), (7, .pointer (some ⟨p, 0, none⟩)), (9, .pointer (some ⟨q, 0, none⟩)), (12, .int .i64 (x.1 : Int))]
def armR (n : Nat) (w0 : World) (p q : Nat) (ks : List (BitVec 64)) (torn off : Int) (x : Nat × Nat) (W : World) : Prop := x.1 ≤ n ∧ x.1 ≤ 200 ∧ x.2 ≤ 12 ∧ Arm2 w0 W p q ks torn off x.1 x.2
set_option maxRecDepth 100000 in
set_option maxHeartbeats 8000000 in
theorem armed_any (sv : Value) (ss : List Stp) (st : Int) (v : Value) (ks : List (BitVec 64)) (torn off : Int) (w : World) (hsc : Script w sv ss) (hst : -9223372036854775808 ≤ st ∧ st ≤ 9223372036854775807) (hv : Has64 w v ks) (hkl : ks.length + 2 ≤ 17592186044416) :
    Calls Try.prog 5 #[sv, .int .i64 st, .agg (lossC v torn off).toArray] w fun e w' => e = .returned (.bool true) ∧ Below w.heap.size w w' := by
  obtain ⟨g0, hg0⟩ : ∃ g, w.heap.size = g := ⟨_, rfl⟩
  have be0 : Below w.heap.size w (w.alloc (.cells (lossC v torn off).toArray 38)) := below_new w _
  have b0 : Blk (w.alloc (.cells (lossC v torn off).toArray 38)) g0 (lossC v torn off) 38 := Blk.newAt hg0
  obtain ⟨w0, hw0⟩ : ∃ w0, w.alloc (.cells (lossC v torn off).toArray 38) = w0 := ⟨_, rfl⟩
  rw [hw0] at be0 b0
  have hsc0 := hsc.below be0
  have hv0 := hv.below be0
  have hA := hide (new_any 4 (by decide) (by decide) w0)
  have M1 := Mine.new w0 4 (zer 4) (by decide) (by decide) (zer_length 4)
  obtain ⟨wa, hwa⟩ : ∃ wa, newW w0 4 (zer 4) = wa := ⟨_, rfl⟩
  rw [hwa] at hA M1
  have hB := hide (new_any 4 (by decide) (by decide) wa)
  have M2 := Mine.newX (w := w0) (X := wa) (W := newW wa 4 (zer 4)) (n := 4) (img := zer 4) M1.be rfl (by decide) (by decide) (zer_length 4)
  have DU : Duo w0 (newW wa 4 (zer 4)) (freshL (w0.heap.size + 2) w0.heap.size (w0.heap.size + 1)) (freshL (wa.heap.size + 2) wa.heap.size (wa.heap.size + 1)) (freshD 4 (zer 4)) (freshD 4 (zer 4)) :=
    ⟨M1.below (newW_below wa 4 (zer 4)), M2, fun k h1 h2 => by
      have h3 := M1.dev.lt k h1
      have h4 := (Mine.new wa 4 (zer 4) (by decide) (by decide) (zer_length 4)).own k h2
      omega⟩
  obtain ⟨wb, hwb⟩ : ∃ wb, newW wa 4 (zer 4) = wb := ⟨_, rfl⟩
  rw [hwb] at hB DU
  obtain ⟨p, hp⟩ : ∃ p, w0.heap.size + 2 = p := ⟨_, rfl⟩
  obtain ⟨q, hq⟩ : ∃ q, wa.heap.size + 2 = q := ⟨_, rfl⟩
  obtain ⟨La, hLa⟩ : ∃ La, freshL (w0.heap.size + 2) w0.heap.size (w0.heap.size + 1) = La := ⟨_, rfl⟩
  obtain ⟨Lb, hLb⟩ : ∃ Lb, freshL (wa.heap.size + 2) wa.heap.size (wa.heap.size + 1) = Lb := ⟨_, rfl⟩
  have hpa : La.p = p := by rw [← hLa]; exact hp
  have hpb : Lb.p = q := by rw [← hLb]; exact hq
  rw [hLa, hLb] at DU
  rw [hp] at hA
  rw [hq] at hB
  have hF := hide (fixed_any wb)
  have hpk := hide (pick_any st 12 (by decide) (by decide) hst)
  have hplt := pick_lt st 12 (by decide)
  obtain ⟨k1, hk1⟩ : ∃ k1, pickN st 12 = k1 := ⟨_, rfl⟩
  rw [hk1] at hpk hplt
  have e1 := k2_facts k1 hplt
  obtain ⟨k2, hk2⟩ : ∃ k2, 1 + k1 = k2 := ⟨_, rfl⟩
  rw [hk2] at e1
  have HK2 : Hid (1 ≤ k2 ∧ k2 ≤ 12) := hide (k2_range k1 k2 hplt hk2)
  have HSC := hide hsc0
  have HV := hide hv0
  have HB0 := hide b0
  have BE0 := hide be0
  have HDU := hide DU
  have HKL := hide hkl
  have hlen := hsc0.len
  clear hsc0 hv0 b0 be0 DU hkl M1 M2 hwa hwb hp hq hLa hLb hk1 hk2 hplt hsc hv hst
  obtain ⟨n, hn⟩ : ∃ n, ss.length = n := ⟨_, rfl⟩
  rw [hn] at hlen
  have HN := hide hn
  clear hn
  refine calls_of_args [sv, .int .i64 st, .agg (lossC v torn off).toArray] Try.func5 rfl 173 Try.ntmps5 (by show 3 ≤ 173; decide) ?_
  refine EW.seq ?_
  refine EW.region ?_
  refine WL.box rfl rfl rfl (run_boxR 38 (lossC v torn off) w g0 hg0) ?_; rw [hw0]
  first | refine WL.assign rfl rfl rfl ?_
  refine WL.done ?_
  refine EW.on ?_
  refine EW.seq ?_
  refine EW.region ?_
  refine WL.call [.int .i64 4] enter18 rfl rfl rfl hA.out ?_
  rintro x w3 ⟨rfl, hz⟩
  rw [hz]; clear hz w3
  refine ⟨_, rfl, ?_⟩
  first | refine WL.move rfl rfl rfl ?_
  first | refine WL.extract rfl rfl rfl (ext_2 _ _ _).1 ?_
  first | refine WL.extract rfl rfl rfl (ext_2 _ _ _).2 ?_
  first | refine WL.assign rfl rfl rfl ?_
  first | refine WL.assign rfl rfl rfl ?_
  refine WL.done ?_
  refine EW.on ?_
  refine EW.seq ?_
  refine EW.region ?_
  refine WL.call [.int .i64 4] enter18 rfl rfl rfl hB.out ?_
  rintro x w3 ⟨rfl, hz⟩
  rw [hz]; clear hz w3
  refine ⟨_, rfl, ?_⟩
  first | refine WL.move rfl rfl rfl ?_
  first | refine WL.extract rfl rfl rfl (ext_2 _ _ _).1 ?_
  first | refine WL.extract rfl rfl rfl (ext_2 _ _ _).2 ?_
  first | refine WL.assign rfl rfl rfl ?_
  first | refine WL.assign rfl rfl rfl ?_
  refine WL.done ?_
  refine EW.on ?_
  refine EW.seq ?_
  refine EW.seq ?_
  refine EW.region ?_
  first | refine WL.move rfl rfl rfl ?_
  first | refine WL.bin rfl rfl rfl rfl (int_ne_f rfl _ _ _) ?_ | refine WL.bin rfl rfl rfl rfl (int_ne_t ‹_› _ _ _) ?_ | refine WL.bin rfl rfl rfl rfl (int_ne_f ‹_› _ _ _) ?_ | refine WL.bin rfl rfl rfl rfl (int_ne_t (by decide) _ _ _) ?_
  first | refine WL.move rfl rfl rfl ?_
  first | refine WL.move rfl rfl rfl ?_ | refine WL.skip _ rfl rfl rfl ?_
  first | refine WL.bin rfl rfl rfl rfl (int_ne_f rfl _ _ _) ?_ | refine WL.bin rfl rfl rfl rfl (int_ne_t ‹_› _ _ _) ?_ | refine WL.bin rfl rfl rfl rfl (int_ne_f ‹_› _ _ _) ?_ | refine WL.bin rfl rfl rfl rfl (int_ne_t (by decide) _ _ _) ?_ | refine WL.skip _ rfl rfl rfl ?_
  first | refine WL.pick rfl rfl rfl rfl ?_
  first | refine WL.move rfl rfl rfl ?_
  first | refine WL.move rfl rfl rfl ?_ | refine WL.skip _ rfl rfl rfl ?_
  first | refine WL.bin rfl rfl rfl rfl (ptr_eq_f _ _ _ _) ?_ | refine WL.skip _ rfl rfl rfl ?_
  first | refine WL.pick rfl rfl rfl rfl ?_
  first | refine WL.move rfl rfl rfl ?_
  first | refine WL.move rfl rfl rfl ?_ | refine WL.skip _ rfl rfl rfl ?_
  first | refine WL.bin rfl rfl rfl rfl (ptr_eq_f _ _ _ _) ?_ | refine WL.skip _ rfl rfl rfl ?_
  first | refine WL.pick rfl rfl rfl rfl ?_
  first | refine WL.move rfl rfl rfl ?_
  refine WL.call [] enter10 rfl rfl rfl hF.out ?_
  rintro x wf ⟨rfl, hz⟩
  have HDF := hide (HDU.out.below hz); have HBF := hide (HDF.out.d.be); have HTW := hide (twin_any v ks torn off HKL.out wf (HV.out.below HBF.out)); have HB0F := hide (HB0.out.on HBF.out); clear hz
  refine ⟨_, rfl, ?_⟩
  first | refine WL.un rfl rfl rfl (not_t _ _) ?_ | refine WL.skip _ rfl rfl rfl ?_
  first | refine WL.pick rfl rfl rfl rfl ?_
  refine WL.done ?_
  refine EW.on ?_
  refine EW.cond_f rfl ?_
  refine EW.skip ?_
  refine EW.on ?_
  refine EW.seq ?_
  refine EW.region ?_
  first | refine WL.move rfl rfl rfl ?_
  refine WL.call [.int .i64 st, .int .i64 12] enter9 rfl rfl rfl (hpk.out _) ?_
  rintro x w3 ⟨rfl, hz⟩
  rw [hz]; clear hz w3
  refine ⟨_, rfl, ?_⟩
  first | refine WL.bin rfl rfl rfl rfl (int_add ‹_› _ _ _) ?_
  first | refine WL.assign rfl rfl rfl ?_
  refine WL.done ?_
  refine EW.on ?_
  refine EW.seq ?_
  refine EW.region ?_
  first | refine WL.move rfl rfl rfl ?_
  first | refine WL.move rfl rfl rfl ?_
  refine WL.load rfl rfl rfl (run_loadR HB0F.out Try.underlying38 rfl (info38 _ _ _)) ?_
  refine WL.call [.agg (lossC v torn off).toArray] enter20 rfl rfl rfl HTW.out ?_
  rintro x wt ⟨rfl, hz1, hz2⟩
  have HDT := hide (HDF.out.below hz1)
  have HAR := hide (arm_ok HDT.out.d.dev rfl k2 HK2.out.1 _ ks torn off hz2 (fun k hk e => by have h1 := HDF.out.d.dev.dev.lt; simp [Value.ownBlock] at hk; omega) (by have := HKL.out; omega))
  rw [hpa] at HAR
  clear hz1 hz2
  refine ⟨_, rfl, ?_⟩
  refine WL.call [.pointer (some ⟨p, 0, none⟩), .int .i64 (k2 : Int), .agg (lossC (.slice (some ⟨wf.heap.size + 2, 0, none⟩) ks.length (ks.length + 2)) torn off).toArray] enter19 rfl rfl rfl HAR.out ?_
  rintro x wr0 ⟨rfl, L1, ht1, hd1⟩
  have HI := hide (⟨L1, Lb, _, _, ht1.p.trans hpa, hpb, HDT.out.left ht1 hd1, .inl ⟨HK2.out.1, rfl, rfl, rfl, rfl, Nat.le_refl 0, Nat.le_refl 0⟩⟩ : Arm2 w0 wr0 p q ks torn off 0 k2)
  clear ht1 hd1
  refine ⟨_, rfl, ?_⟩
  first | refine WL.assign rfl rfl rfl ?_
  refine WL.done ?_
  refine EW.on ?_
  refine EW.seq ?_
  refine EW.seq ?_
  refine EW.region ?_
  first | refine WL.move rfl rfl rfl ?_
  first | refine WL.bin rfl rfl rfl rfl (int_ne_f rfl _ _ _) ?_ | refine WL.bin rfl rfl rfl rfl (int_ne_t ‹_› _ _ _) ?_ | refine WL.bin rfl rfl rfl rfl (int_ne_f ‹_› _ _ _) ?_ | refine WL.bin rfl rfl rfl rfl (int_ne_t (by decide) _ _ _) ?_
  refine WL.done ?_
  refine EW.on ?_
  refine EW.cond_f rfl ?_
  refine EW.skip ?_
  refine EW.on ?_
  refine EW.seq ?_
  refine EW.seq ?_
  refine EW.region ?_
  first | refine WL.assign rfl rfl rfl ?_
  refine WL.done ?_
  refine EW.on ?_
  refine EW.block ?_
  refine EW.loop (armE sv g0 p q) (armR n w0 p q ks torn off) (fun x => 200 - x.1) (0, k2) [0, 1, 5, 7, 9, 12] rfl ⟨Nat.zero_le _, Nat.zero_le _, HK2.out.2, HI.out⟩ ?_
  clear hA hB hF HDF HBF HTW HB0F HDT HAR HDU hpk e1 L1 HI HK2
  rintro ⟨t, k⟩ wr hR
  obtain ⟨htn, ht2, hk12, hs⟩ := hR
  have htn : t ≤ n := htn
  have ht2 : t ≤ 200 := ht2
  have hk12 : k ≤ 12 := hk12
  have hs : Arm2 w0 wr p q ks torn off t k := hs
  show EW _ _ _ _ [(0, sv), (1, .int .i64 (k : Int)), (5, .pointer (some ⟨g0, 0, none⟩)), (7, .pointer (some ⟨p, 0, none⟩)), (9, .pointer (some ⟨q, 0, none⟩)), (12, .int .i64 (t : Int))] _
  by_cases hlt : t < n ∧ t < 200 ∧ 0 < k
  · obtain ⟨hl1, hl2, hl3⟩ := hlt
    have z1 : (t : Int) < (n : Int) := Int.ofNat_lt.2 hl1
    have z2 : (t : Int) < 200 := Int.ofNat_lt.2 hl2
    have z3 : (0 : Int) < (k : Int) := Int.ofNat_lt.2 hl3
    obtain ⟨s, hsx⟩ : ∃ s, ss[t]? = some s := ⟨ss[t]'(by rw [HN.out]; exact hl1), List.getElem?_eq_getElem _⟩
    obtain ⟨ad, hix, hat, hok⟩ := HSC.out.item t s hsx
    have BEr : Below w0.heap.size w0 wr := by obtain ⟨_, _, _, _, _, _, h3, _⟩ := hs; exact h3.d.be
    have AT := hat.below BEr
    have H1 := stC_one s hok
    obtain ⟨gs, hgs⟩ : ∃ g, wr.heap.size = g := ⟨_, rfl⟩
    have tn := tn_facts t hl2
    have kn := kn_facts k hl3 hk12
    have bs1 : Below wr.heap.size wr ((wr.alloc (.cells stZ.toArray 53)).setRow gs (stC s).toArray) := below_setRow (below_new wr _) _ _ (Nat.le_of_eq hgs)
    have bw : Blk ((wr.alloc (.cells stZ.toArray 53)).setRow gs (stC s).toArray) gs (stC s) 53 := (Blk.newAt hgs).setRow _
    have AA := hs.below bs1
    have hgF : ∀ (L M : Lay) (D C : Dv), Duo w0 wr L M D C → ¬ L.F gs ∧ ¬ M.F gs := fun L M D C h => ⟨fun hF => by have := h.d.dev.lt gs hF; rw [hgs] at this; exact Nat.lt_irrefl _ this, fun hF => by have := h.c.dev.lt gs hF; rw [hgs] at this; exact Nat.lt_irrefl _ this⟩
    obtain ⟨w1, hw1⟩ : ∃ w1, (wr.alloc (.cells stZ.toArray 53)).setRow gs (stC s).toArray = w1 := ⟨_, rfl⟩
    rw [hw1] at bs1 bw AA
    have c0 := (bw.cell 0).trans (show _ = some (.int .i64 s.kind) from rfl)
    have c2 := (bw.cell 2).trans (show _ = some (.int .i64 s.i) from rfl)
    obtain ⟨L, M, D, C, hLp, hMp, hduo0, hcase⟩ := hs
    have hduo := hduo0.below bs1
    obtain ⟨hgL, hgM⟩ := hgF L M D C hduo0
    obtain ⟨_, rfl, hCl, hCn, hCd, hCc, hCp⟩ : 1 ≤ k ∧ D = armD C k ks torn off ∧ C.left = 0 ∧ C.n = 4 ∧ C.down = false ∧ C.calls ≤ t ∧ C.pen.length ≤ t := by
      rcases hcase with h | h
      · exact h
      · exact absurd h.1 (Nat.ne_of_gt hl3)
    refine EW.seq ?_
    refine EW.seq ?_
    refine EW.region ?_
    first | refine WL.move rfl rfl rfl ?_
    first | refine WL.move rfl rfl rfl ?_
    refine WL.len rfl rfl rfl (hlen _ _) ?_
    first | refine WL.bin rfl rfl rfl rfl (int_lt_t ‹_› _ _ _) ?_ | refine WL.bin rfl rfl rfl rfl (int_lt_f ‹_› _ _ _) ?_
    first | refine WL.move rfl rfl rfl ?_
    first | refine WL.move rfl rfl rfl ?_ | refine WL.skip _ rfl rfl rfl ?_
    first | refine WL.bin rfl rfl rfl rfl (int_lt_t ‹_› _ _ _) ?_ | refine WL.bin rfl rfl rfl rfl (int_lt_f ‹_› _ _ _) ?_ | refine WL.skip _ rfl rfl rfl ?_
    first | refine WL.pick rfl rfl rfl rfl ?_
    first | refine WL.move rfl rfl rfl ?_
    first | refine WL.move rfl rfl rfl ?_ | refine WL.skip _ rfl rfl rfl ?_
    first | refine WL.bin rfl rfl rfl rfl (int_gt_t ‹_› _ _ _) ?_ | refine WL.bin rfl rfl rfl rfl (int_gt_f ‹_› _ _ _) ?_ | refine WL.skip _ rfl rfl rfl ?_
    first | refine WL.pick rfl rfl rfl rfl ?_
    refine WL.done ?_
    refine EW.on ?_
    refine EW.cond_t rfl ?_
    refine EW.skip ?_
    refine EW.on ?_
    refine EW.seq ?_
    refine EW.block ?_
    refine EW.seq ?_
    refine EW.region ?_
    first | refine WL.move rfl rfl rfl ?_
    first | refine WL.move rfl rfl rfl ?_
    refine WL.index rfl rfl rfl rfl (hix _) ?_
    refine WL.load rfl rfl rfl (run_loadA AT Try.underlying53 rfl (info53 _)) ?_
    refine WL.new rfl rfl (run_newR 53 stZ zero53 _ gs hgs) ?_
    refine WL.store rfl rfl rfl (run_storeR (Blk.newAt hgs) (info53 _) rfl H1) ?_; rw [hw1]
    refine WL.done ?_
    refine EW.on ?_
    refine EW.seq ?_
    refine EW.seq ?_
    by_cases n7 : s.kind = 7
    · refine EW.region ?_
      first | refine WL.field rfl rfl rfl (fld53_0 _ _) ?_
      first | refine WL.load rfl rfl rfl (ld3 c0) ?_
      first | refine WL.bin rfl rfl rfl rfl (int_eq_t ‹_› _ _ _) ?_ | refine WL.bin rfl rfl rfl rfl (int_eq_f ‹_› _ _ _) ?_
      first | refine WL.move rfl rfl rfl ?_
      first | refine WL.field rfl rfl rfl (fld53_0 _ _) ?_ | refine WL.skip _ rfl rfl rfl ?_
      first | refine WL.load rfl rfl rfl (ld3 c0) ?_ | refine WL.skip _ rfl rfl rfl ?_
      first | refine WL.bin rfl rfl rfl rfl (int_eq_t ‹_› _ _ _) ?_ | refine WL.bin rfl rfl rfl rfl (int_eq_f ‹_› _ _ _) ?_ | refine WL.skip _ rfl rfl rfl ?_
      first | refine WL.pick rfl rfl rfl rfl ?_
      first | refine WL.move rfl rfl rfl ?_
      first | refine WL.field rfl rfl rfl (fld53_0 _ _) ?_ | refine WL.skip _ rfl rfl rfl ?_
      first | refine WL.load rfl rfl rfl (ld3 c0) ?_ | refine WL.skip _ rfl rfl rfl ?_
      first | refine WL.bin rfl rfl rfl rfl (int_eq_t ‹_› _ _ _) ?_ | refine WL.bin rfl rfl rfl rfl (int_eq_f ‹_› _ _ _) ?_ | refine WL.skip _ rfl rfl rfl ?_
      first | refine WL.pick rfl rfl rfl rfl ?_
      first | refine WL.move rfl rfl rfl ?_
      first | refine WL.field rfl rfl rfl (fld53_0 _ _) ?_ | refine WL.skip _ rfl rfl rfl ?_
      first | refine WL.load rfl rfl rfl (ld3 c0) ?_ | refine WL.skip _ rfl rfl rfl ?_
      first | refine WL.bin rfl rfl rfl rfl (int_eq_t ‹_› _ _ _) ?_ | refine WL.bin rfl rfl rfl rfl (int_eq_f ‹_› _ _ _) ?_ | refine WL.skip _ rfl rfl rfl ?_
      first | refine WL.pick rfl rfl rfl rfl ?_
      refine WL.done ?_
      refine EW.on ?_
      refine EW.cond_t rfl ?_
      refine EW.exit ?_
      repeat refine px_then ?_
      refine px_block ?_
      refine EW.on ?_
      refine EW.region ?_
      first | refine WL.move rfl rfl rfl ?_
      first | refine WL.bin rfl rfl rfl rfl (int_add ‹_› _ _ _) ?_
      first | refine WL.assign rfl rfl rfl ?_
      refine WL.done ?_
      exact EW.again (t + 1, k) [0, 1, 5, 7, 9, 12] rfl ⟨hl1, hl2, hk12, AA.skip⟩ (meas t hl2)
    by_cases n8 : s.kind = 8
    · refine EW.region ?_
      first | refine WL.field rfl rfl rfl (fld53_0 _ _) ?_
      first | refine WL.load rfl rfl rfl (ld3 c0) ?_
      first | refine WL.bin rfl rfl rfl rfl (int_eq_t ‹_› _ _ _) ?_ | refine WL.bin rfl rfl rfl rfl (int_eq_f ‹_› _ _ _) ?_
      first | refine WL.move rfl rfl rfl ?_
      first | refine WL.field rfl rfl rfl (fld53_0 _ _) ?_ | refine WL.skip _ rfl rfl rfl ?_
      first | refine WL.load rfl rfl rfl (ld3 c0) ?_ | refine WL.skip _ rfl rfl rfl ?_
      first | refine WL.bin rfl rfl rfl rfl (int_eq_t ‹_› _ _ _) ?_ | refine WL.bin rfl rfl rfl rfl (int_eq_f ‹_› _ _ _) ?_ | refine WL.skip _ rfl rfl rfl ?_
      first | refine WL.pick rfl rfl rfl rfl ?_
      first | refine WL.move rfl rfl rfl ?_
      first | refine WL.field rfl rfl rfl (fld53_0 _ _) ?_ | refine WL.skip _ rfl rfl rfl ?_
      first | refine WL.load rfl rfl rfl (ld3 c0) ?_ | refine WL.skip _ rfl rfl rfl ?_
      first | refine WL.bin rfl rfl rfl rfl (int_eq_t ‹_› _ _ _) ?_ | refine WL.bin rfl rfl rfl rfl (int_eq_f ‹_› _ _ _) ?_ | refine WL.skip _ rfl rfl rfl ?_
      first | refine WL.pick rfl rfl rfl rfl ?_
      first | refine WL.move rfl rfl rfl ?_
      first | refine WL.field rfl rfl rfl (fld53_0 _ _) ?_ | refine WL.skip _ rfl rfl rfl ?_
      first | refine WL.load rfl rfl rfl (ld3 c0) ?_ | refine WL.skip _ rfl rfl rfl ?_
      first | refine WL.bin rfl rfl rfl rfl (int_eq_t ‹_› _ _ _) ?_ | refine WL.bin rfl rfl rfl rfl (int_eq_f ‹_› _ _ _) ?_ | refine WL.skip _ rfl rfl rfl ?_
      first | refine WL.pick rfl rfl rfl rfl ?_
      refine WL.done ?_
      refine EW.on ?_
      refine EW.cond_t rfl ?_
      refine EW.exit ?_
      repeat refine px_then ?_
      refine px_block ?_
      refine EW.on ?_
      refine EW.region ?_
      first | refine WL.move rfl rfl rfl ?_
      first | refine WL.bin rfl rfl rfl rfl (int_add ‹_› _ _ _) ?_
      first | refine WL.assign rfl rfl rfl ?_
      refine WL.done ?_
      exact EW.again (t + 1, k) [0, 1, 5, 7, 9, 12] rfl ⟨hl1, hl2, hk12, AA.skip⟩ (meas t hl2)
    by_cases n5 : s.kind = 5
    · refine EW.region ?_
      first | refine WL.field rfl rfl rfl (fld53_0 _ _) ?_
      first | refine WL.load rfl rfl rfl (ld3 c0) ?_
      first | refine WL.bin rfl rfl rfl rfl (int_eq_t ‹_› _ _ _) ?_ | refine WL.bin rfl rfl rfl rfl (int_eq_f ‹_› _ _ _) ?_
      first | refine WL.move rfl rfl rfl ?_
      first | refine WL.field rfl rfl rfl (fld53_0 _ _) ?_ | refine WL.skip _ rfl rfl rfl ?_
      first | refine WL.load rfl rfl rfl (ld3 c0) ?_ | refine WL.skip _ rfl rfl rfl ?_
      first | refine WL.bin rfl rfl rfl rfl (int_eq_t ‹_› _ _ _) ?_ | refine WL.bin rfl rfl rfl rfl (int_eq_f ‹_› _ _ _) ?_ | refine WL.skip _ rfl rfl rfl ?_
      first | refine WL.pick rfl rfl rfl rfl ?_
      first | refine WL.move rfl rfl rfl ?_
      first | refine WL.field rfl rfl rfl (fld53_0 _ _) ?_ | refine WL.skip _ rfl rfl rfl ?_
      first | refine WL.load rfl rfl rfl (ld3 c0) ?_ | refine WL.skip _ rfl rfl rfl ?_
      first | refine WL.bin rfl rfl rfl rfl (int_eq_t ‹_› _ _ _) ?_ | refine WL.bin rfl rfl rfl rfl (int_eq_f ‹_› _ _ _) ?_ | refine WL.skip _ rfl rfl rfl ?_
      first | refine WL.pick rfl rfl rfl rfl ?_
      first | refine WL.move rfl rfl rfl ?_
      first | refine WL.field rfl rfl rfl (fld53_0 _ _) ?_ | refine WL.skip _ rfl rfl rfl ?_
      first | refine WL.load rfl rfl rfl (ld3 c0) ?_ | refine WL.skip _ rfl rfl rfl ?_
      first | refine WL.bin rfl rfl rfl rfl (int_eq_t ‹_› _ _ _) ?_ | refine WL.bin rfl rfl rfl rfl (int_eq_f ‹_› _ _ _) ?_ | refine WL.skip _ rfl rfl rfl ?_
      first | refine WL.pick rfl rfl rfl rfl ?_
      refine WL.done ?_
      refine EW.on ?_
      refine EW.cond_t rfl ?_
      refine EW.exit ?_
      repeat refine px_then ?_
      refine px_block ?_
      refine EW.on ?_
      refine EW.region ?_
      first | refine WL.move rfl rfl rfl ?_
      first | refine WL.bin rfl rfl rfl rfl (int_add ‹_› _ _ _) ?_
      first | refine WL.assign rfl rfl rfl ?_
      refine WL.done ?_
      exact EW.again (t + 1, k) [0, 1, 5, 7, 9, 12] rfl ⟨hl1, hl2, hk12, AA.skip⟩ (meas t hl2)
    by_cases n6 : s.kind = 6
    · refine EW.region ?_
      first | refine WL.field rfl rfl rfl (fld53_0 _ _) ?_
      first | refine WL.load rfl rfl rfl (ld3 c0) ?_
      first | refine WL.bin rfl rfl rfl rfl (int_eq_t ‹_› _ _ _) ?_ | refine WL.bin rfl rfl rfl rfl (int_eq_f ‹_› _ _ _) ?_
      first | refine WL.move rfl rfl rfl ?_
      first | refine WL.field rfl rfl rfl (fld53_0 _ _) ?_ | refine WL.skip _ rfl rfl rfl ?_
      first | refine WL.load rfl rfl rfl (ld3 c0) ?_ | refine WL.skip _ rfl rfl rfl ?_
      first | refine WL.bin rfl rfl rfl rfl (int_eq_t ‹_› _ _ _) ?_ | refine WL.bin rfl rfl rfl rfl (int_eq_f ‹_› _ _ _) ?_ | refine WL.skip _ rfl rfl rfl ?_
      first | refine WL.pick rfl rfl rfl rfl ?_
      first | refine WL.move rfl rfl rfl ?_
      first | refine WL.field rfl rfl rfl (fld53_0 _ _) ?_ | refine WL.skip _ rfl rfl rfl ?_
      first | refine WL.load rfl rfl rfl (ld3 c0) ?_ | refine WL.skip _ rfl rfl rfl ?_
      first | refine WL.bin rfl rfl rfl rfl (int_eq_t ‹_› _ _ _) ?_ | refine WL.bin rfl rfl rfl rfl (int_eq_f ‹_› _ _ _) ?_ | refine WL.skip _ rfl rfl rfl ?_
      first | refine WL.pick rfl rfl rfl rfl ?_
      first | refine WL.move rfl rfl rfl ?_
      first | refine WL.field rfl rfl rfl (fld53_0 _ _) ?_ | refine WL.skip _ rfl rfl rfl ?_
      first | refine WL.load rfl rfl rfl (ld3 c0) ?_ | refine WL.skip _ rfl rfl rfl ?_
      first | refine WL.bin rfl rfl rfl rfl (int_eq_t ‹_› _ _ _) ?_ | refine WL.bin rfl rfl rfl rfl (int_eq_f ‹_› _ _ _) ?_ | refine WL.skip _ rfl rfl rfl ?_
      first | refine WL.pick rfl rfl rfl rfl ?_
      refine WL.done ?_
      refine EW.on ?_
      refine EW.cond_t rfl ?_
      refine EW.exit ?_
      repeat refine px_then ?_
      refine px_block ?_
      refine EW.on ?_
      refine EW.region ?_
      first | refine WL.move rfl rfl rfl ?_
      first | refine WL.bin rfl rfl rfl rfl (int_add ‹_› _ _ _) ?_
      first | refine WL.assign rfl rfl rfl ?_
      refine WL.done ?_
      exact EW.again (t + 1, k) [0, 1, 5, 7, 9, 12] rfl ⟨hl1, hl2, hk12, AA.skip⟩ (meas t hl2)
    refine EW.region ?_
    first | refine WL.field rfl rfl rfl (fld53_0 _ _) ?_
    first | refine WL.load rfl rfl rfl (ld3 c0) ?_
    first | refine WL.bin rfl rfl rfl rfl (int_eq_t ‹_› _ _ _) ?_ | refine WL.bin rfl rfl rfl rfl (int_eq_f ‹_› _ _ _) ?_
    first | refine WL.move rfl rfl rfl ?_
    first | refine WL.field rfl rfl rfl (fld53_0 _ _) ?_ | refine WL.skip _ rfl rfl rfl ?_
    first | refine WL.load rfl rfl rfl (ld3 c0) ?_ | refine WL.skip _ rfl rfl rfl ?_
    first | refine WL.bin rfl rfl rfl rfl (int_eq_t ‹_› _ _ _) ?_ | refine WL.bin rfl rfl rfl rfl (int_eq_f ‹_› _ _ _) ?_ | refine WL.skip _ rfl rfl rfl ?_
    first | refine WL.pick rfl rfl rfl rfl ?_
    first | refine WL.move rfl rfl rfl ?_
    first | refine WL.field rfl rfl rfl (fld53_0 _ _) ?_ | refine WL.skip _ rfl rfl rfl ?_
    first | refine WL.load rfl rfl rfl (ld3 c0) ?_ | refine WL.skip _ rfl rfl rfl ?_
    first | refine WL.bin rfl rfl rfl rfl (int_eq_t ‹_› _ _ _) ?_ | refine WL.bin rfl rfl rfl rfl (int_eq_f ‹_› _ _ _) ?_ | refine WL.skip _ rfl rfl rfl ?_
    first | refine WL.pick rfl rfl rfl rfl ?_
    first | refine WL.move rfl rfl rfl ?_
    first | refine WL.field rfl rfl rfl (fld53_0 _ _) ?_ | refine WL.skip _ rfl rfl rfl ?_
    first | refine WL.load rfl rfl rfl (ld3 c0) ?_ | refine WL.skip _ rfl rfl rfl ?_
    first | refine WL.bin rfl rfl rfl rfl (int_eq_t ‹_› _ _ _) ?_ | refine WL.bin rfl rfl rfl rfl (int_eq_f ‹_› _ _ _) ?_ | refine WL.skip _ rfl rfl rfl ?_
    first | refine WL.pick rfl rfl rfl rfl ?_
    refine WL.done ?_
    refine EW.on ?_
    refine EW.cond_f rfl ?_
    refine EW.skip ?_
    refine EW.on ?_
    refine EW.seq ?_
    have hok1 := hok
    by_cases n1 : s.kind = 1
    · have hq := quiet_of s (.inl n1)
      have hcf := arm_first hduo hl3 hk12 hCl hCn hCd hCc hCp ht2 s hok n5 n6 n7 n8 (fun h => by rw [hq] at h; cases h)
      rw [hLp, hq, if_neg (by decide)] at hcf
      refine EW.region ?_
      first | refine WL.move rfl rfl rfl ?_
      refine WL.load rfl rfl rfl (run_loadR bw Try.underlying53 rfl (info53 _)) ?_
      refine WL.call [.pointer (some ⟨p, 0, none⟩), .agg (stC s).toArray] enter21 rfl rfl rfl hcf ?_
      rintro x w3 ⟨rfl, ⟨L3, hL3, hduo3⟩, hbl⟩
      have bw3 := hbl gs _ _ bw hgL
      have d0 := (bw3.cell 0).trans (show _ = some (.int .i64 s.kind) from rfl)
      have d2 := (bw3.cell 2).trans (show _ = some (.int .i64 s.i) from rfl)
      refine ⟨_, rfl, ?_⟩
      first | refine WL.move rfl rfl rfl ?_
      first | refine WL.extract rfl rfl rfl (ext_2 _ _ _).1 ?_
      first | refine WL.extract rfl rfl rfl (ext_2 _ _ _).2 ?_
      first | refine WL.assign rfl rfl rfl ?_
      first | refine WL.assign rfl rfl rfl ?_
      refine WL.done ?_
      refine EW.on ?_
      refine EW.seq ?_
      refine EW.region ?_
      first | refine WL.field rfl rfl rfl (fld53_0 _ _) ?_
      first | refine WL.load rfl rfl rfl (ld3 d0) ?_ | refine WL.load rfl rfl rfl (ld3 d2) ?_
      first | refine WL.bin rfl rfl rfl rfl (int_ne_f rfl _ _ _) ?_ | refine WL.bin rfl rfl rfl rfl (int_ne_t ‹_› _ _ _) ?_ | refine WL.bin rfl rfl rfl rfl (int_ne_f ‹_› _ _ _) ?_ | refine WL.bin rfl rfl rfl rfl (int_ne_t (by decide) _ _ _) ?_
      first | refine WL.move rfl rfl rfl ?_
      first | refine WL.field rfl rfl rfl (fld53_0 _ _) ?_ | refine WL.skip _ rfl rfl rfl ?_
      first | refine WL.load rfl rfl rfl (ld3 d0) ?_ | refine WL.load rfl rfl rfl (ld3 d2) ?_ | refine WL.skip _ rfl rfl rfl ?_
      first | refine WL.bin rfl rfl rfl rfl (int_ne_f rfl _ _ _) ?_ | refine WL.bin rfl rfl rfl rfl (int_ne_t ‹_› _ _ _) ?_ | refine WL.bin rfl rfl rfl rfl (int_ne_f ‹_› _ _ _) ?_ | refine WL.bin rfl rfl rfl rfl (int_ne_t (by decide) _ _ _) ?_ | refine WL.skip _ rfl rfl rfl ?_
      first | refine WL.pick rfl rfl rfl rfl ?_
      first | refine WL.move rfl rfl rfl ?_
      first | refine WL.field rfl rfl rfl (fld53_0 _ _) ?_ | refine WL.skip _ rfl rfl rfl ?_
      first | refine WL.load rfl rfl rfl (ld3 d0) ?_ | refine WL.load rfl rfl rfl (ld3 d2) ?_ | refine WL.skip _ rfl rfl rfl ?_
      first | refine WL.bin rfl rfl rfl rfl (int_eq_t ‹_› _ _ _) ?_ | refine WL.bin rfl rfl rfl rfl (int_eq_f ‹_› _ _ _) ?_ | refine WL.skip _ rfl rfl rfl ?_
      first | refine WL.move rfl rfl rfl ?_ | refine WL.skip _ rfl rfl rfl ?_
      first | refine WL.field rfl rfl rfl (fld53_2 _ _) ?_ | refine WL.skip _ rfl rfl rfl ?_
      first | refine WL.load rfl rfl rfl (ld3 d0) ?_ | refine WL.load rfl rfl rfl (ld3 d2) ?_ | refine WL.skip _ rfl rfl rfl ?_
      refine WL.skip _ rfl rfl rfl ?_
      first | refine WL.bin rfl rfl rfl rfl (int_lt_t ‹_› _ _ _) ?_ | refine WL.bin rfl rfl rfl rfl (int_lt_f ‹_› _ _ _) ?_ | refine WL.skip _ rfl rfl rfl ?_
      first | refine WL.pick rfl rfl rfl rfl ?_ | refine WL.skip _ rfl rfl rfl ?_
      first | refine WL.pick rfl rfl rfl rfl ?_
      first | refine WL.assign rfl rfl rfl ?_
      refine WL.done ?_
      refine EW.on ?_
      refine EW.seq ?_
      refine EW.seq ?_
      refine EW.region ?_
      first | refine WL.move rfl rfl rfl ?_
      refine WL.done ?_
      refine EW.on ?_
      refine EW.cond_f rfl ?_
      refine EW.skip ?_
      refine EW.on ?_
      refine EW.seq ?_
      refine EW.seq ?_
      refine EW.region ?_
      first | refine WL.move rfl rfl rfl ?_
      first | refine WL.bin rfl rfl rfl rfl (int_gt_t ‹_› _ _ _) ?_ | refine WL.bin rfl rfl rfl rfl (int_gt_f ‹_› _ _ _) ?_
      refine WL.done ?_
      refine EW.on ?_
      refine EW.cond_t rfl ?_
      refine EW.seq ?_
      have hcs := arm_second (k := k) s hduo3 hl3 hCl hCn hCd hCc hCp ht2 hok n5 n6 n7 n8
      rw [hL3, hMp] at hcs
      refine EW.region ?_
      first | refine WL.move rfl rfl rfl ?_
      refine WL.load rfl rfl rfl (run_loadR bw3 Try.underlying53 rfl (info53 _)) ?_
      refine WL.call [.pointer (some ⟨q, 0, none⟩), .agg (stC s).toArray] enter21 rfl rfl rfl hcs ?_
      rintro x w5 ⟨rfl, hA5⟩
      refine ⟨_, rfl, ?_⟩
      first | refine WL.move rfl rfl rfl ?_
      first | refine WL.extract rfl rfl rfl (ext_2 _ _ _).1 ?_
      first | refine WL.extract rfl rfl rfl (ext_2 _ _ _).2 ?_
      first | refine WL.assign rfl rfl rfl ?_
      first | refine WL.assign rfl rfl rfl ?_
      refine WL.done ?_
      refine EW.on ?_
      refine EW.seq ?_
      refine EW.seq ?_
      refine EW.region ?_
      first | refine WL.move rfl rfl rfl ?_
      first | refine WL.move rfl rfl rfl ?_
      first | refine WL.bin rfl rfl rfl rfl (int_ne_f rfl _ _ _) ?_ | refine WL.bin rfl rfl rfl rfl (int_ne_t ‹_› _ _ _) ?_ | refine WL.bin rfl rfl rfl rfl (int_ne_f ‹_› _ _ _) ?_ | refine WL.bin rfl rfl rfl rfl (int_ne_t (by decide) _ _ _) ?_
      first | refine WL.move rfl rfl rfl ?_
      first | refine WL.move rfl rfl rfl ?_ | refine WL.skip _ rfl rfl rfl ?_
      first | refine WL.move rfl rfl rfl ?_ | refine WL.skip _ rfl rfl rfl ?_
      first | refine WL.bin rfl rfl rfl rfl (str_ne_f _ _ _ _) ?_ | refine WL.skip _ rfl rfl rfl ?_
      first | refine WL.pick rfl rfl rfl rfl ?_
      refine WL.done ?_
      refine EW.on ?_
      refine EW.cond_f rfl ?_
      refine EW.skip ?_
      refine EW.on ?_
      refine EW.exit ?_
      repeat refine px_then ?_
      refine px_block ?_
      refine EW.on ?_
      refine EW.region ?_
      first | refine WL.move rfl rfl rfl ?_
      first | refine WL.bin rfl rfl rfl rfl (int_add ‹_› _ _ _) ?_
      first | refine WL.assign rfl rfl rfl ?_
      refine WL.done ?_
      exact EW.again (t + 1, k) [0, 1, 5, 7, 9, 12] rfl ⟨hl1, hl2, hk12, hA5⟩ (meas t hl2)
    by_cases n9 : s.kind = 9
    · have hq := quiet_of s (.inr (.inl n9))
      have hcf := arm_first hduo hl3 hk12 hCl hCn hCd hCc hCp ht2 s hok n5 n6 n7 n8 (fun h => by rw [hq] at h; cases h)
      rw [hLp, hq, if_neg (by decide)] at hcf
      refine EW.region ?_
      first | refine WL.move rfl rfl rfl ?_
      refine WL.load rfl rfl rfl (run_loadR bw Try.underlying53 rfl (info53 _)) ?_
      refine WL.call [.pointer (some ⟨p, 0, none⟩), .agg (stC s).toArray] enter21 rfl rfl rfl hcf ?_
      rintro x w3 ⟨rfl, ⟨L3, hL3, hduo3⟩, hbl⟩
      have bw3 := hbl gs _ _ bw hgL
      have d0 := (bw3.cell 0).trans (show _ = some (.int .i64 s.kind) from rfl)
      have d2 := (bw3.cell 2).trans (show _ = some (.int .i64 s.i) from rfl)
      refine ⟨_, rfl, ?_⟩
      first | refine WL.move rfl rfl rfl ?_
      first | refine WL.extract rfl rfl rfl (ext_2 _ _ _).1 ?_
      first | refine WL.extract rfl rfl rfl (ext_2 _ _ _).2 ?_
      first | refine WL.assign rfl rfl rfl ?_
      first | refine WL.assign rfl rfl rfl ?_
      refine WL.done ?_
      refine EW.on ?_
      refine EW.seq ?_
      refine EW.region ?_
      first | refine WL.field rfl rfl rfl (fld53_0 _ _) ?_
      first | refine WL.load rfl rfl rfl (ld3 d0) ?_ | refine WL.load rfl rfl rfl (ld3 d2) ?_
      first | refine WL.bin rfl rfl rfl rfl (int_ne_f rfl _ _ _) ?_ | refine WL.bin rfl rfl rfl rfl (int_ne_t ‹_› _ _ _) ?_ | refine WL.bin rfl rfl rfl rfl (int_ne_f ‹_› _ _ _) ?_ | refine WL.bin rfl rfl rfl rfl (int_ne_t (by decide) _ _ _) ?_
      first | refine WL.move rfl rfl rfl ?_
      first | refine WL.field rfl rfl rfl (fld53_0 _ _) ?_ | refine WL.skip _ rfl rfl rfl ?_
      first | refine WL.load rfl rfl rfl (ld3 d0) ?_ | refine WL.load rfl rfl rfl (ld3 d2) ?_ | refine WL.skip _ rfl rfl rfl ?_
      first | refine WL.bin rfl rfl rfl rfl (int_ne_f rfl _ _ _) ?_ | refine WL.bin rfl rfl rfl rfl (int_ne_t ‹_› _ _ _) ?_ | refine WL.bin rfl rfl rfl rfl (int_ne_f ‹_› _ _ _) ?_ | refine WL.bin rfl rfl rfl rfl (int_ne_t (by decide) _ _ _) ?_ | refine WL.skip _ rfl rfl rfl ?_
      first | refine WL.pick rfl rfl rfl rfl ?_
      first | refine WL.move rfl rfl rfl ?_
      first | refine WL.field rfl rfl rfl (fld53_0 _ _) ?_ | refine WL.skip _ rfl rfl rfl ?_
      first | refine WL.load rfl rfl rfl (ld3 d0) ?_ | refine WL.load rfl rfl rfl (ld3 d2) ?_ | refine WL.skip _ rfl rfl rfl ?_
      first | refine WL.bin rfl rfl rfl rfl (int_eq_t ‹_› _ _ _) ?_ | refine WL.bin rfl rfl rfl rfl (int_eq_f ‹_› _ _ _) ?_ | refine WL.skip _ rfl rfl rfl ?_
      first | refine WL.move rfl rfl rfl ?_ | refine WL.skip _ rfl rfl rfl ?_
      first | refine WL.field rfl rfl rfl (fld53_2 _ _) ?_ | refine WL.skip _ rfl rfl rfl ?_
      first | refine WL.load rfl rfl rfl (ld3 d0) ?_ | refine WL.load rfl rfl rfl (ld3 d2) ?_ | refine WL.skip _ rfl rfl rfl ?_
      refine WL.skip _ rfl rfl rfl ?_
      first | refine WL.bin rfl rfl rfl rfl (int_lt_t ‹_› _ _ _) ?_ | refine WL.bin rfl rfl rfl rfl (int_lt_f ‹_› _ _ _) ?_ | refine WL.skip _ rfl rfl rfl ?_
      first | refine WL.pick rfl rfl rfl rfl ?_ | refine WL.skip _ rfl rfl rfl ?_
      first | refine WL.pick rfl rfl rfl rfl ?_
      first | refine WL.assign rfl rfl rfl ?_
      refine WL.done ?_
      refine EW.on ?_
      refine EW.seq ?_
      refine EW.seq ?_
      refine EW.region ?_
      first | refine WL.move rfl rfl rfl ?_
      refine WL.done ?_
      refine EW.on ?_
      refine EW.cond_f rfl ?_
      refine EW.skip ?_
      refine EW.on ?_
      refine EW.seq ?_
      refine EW.seq ?_
      refine EW.region ?_
      first | refine WL.move rfl rfl rfl ?_
      first | refine WL.bin rfl rfl rfl rfl (int_gt_t ‹_› _ _ _) ?_ | refine WL.bin rfl rfl rfl rfl (int_gt_f ‹_› _ _ _) ?_
      refine WL.done ?_
      refine EW.on ?_
      refine EW.cond_t rfl ?_
      refine EW.seq ?_
      have hcs := arm_second (k := k) s hduo3 hl3 hCl hCn hCd hCc hCp ht2 hok n5 n6 n7 n8
      rw [hL3, hMp] at hcs
      refine EW.region ?_
      first | refine WL.move rfl rfl rfl ?_
      refine WL.load rfl rfl rfl (run_loadR bw3 Try.underlying53 rfl (info53 _)) ?_
      refine WL.call [.pointer (some ⟨q, 0, none⟩), .agg (stC s).toArray] enter21 rfl rfl rfl hcs ?_
      rintro x w5 ⟨rfl, hA5⟩
      refine ⟨_, rfl, ?_⟩
      first | refine WL.move rfl rfl rfl ?_
      first | refine WL.extract rfl rfl rfl (ext_2 _ _ _).1 ?_
      first | refine WL.extract rfl rfl rfl (ext_2 _ _ _).2 ?_
      first | refine WL.assign rfl rfl rfl ?_
      first | refine WL.assign rfl rfl rfl ?_
      refine WL.done ?_
      refine EW.on ?_
      refine EW.seq ?_
      refine EW.seq ?_
      refine EW.region ?_
      first | refine WL.move rfl rfl rfl ?_
      first | refine WL.move rfl rfl rfl ?_
      first | refine WL.bin rfl rfl rfl rfl (int_ne_f rfl _ _ _) ?_ | refine WL.bin rfl rfl rfl rfl (int_ne_t ‹_› _ _ _) ?_ | refine WL.bin rfl rfl rfl rfl (int_ne_f ‹_› _ _ _) ?_ | refine WL.bin rfl rfl rfl rfl (int_ne_t (by decide) _ _ _) ?_
      first | refine WL.move rfl rfl rfl ?_
      first | refine WL.move rfl rfl rfl ?_ | refine WL.skip _ rfl rfl rfl ?_
      first | refine WL.move rfl rfl rfl ?_ | refine WL.skip _ rfl rfl rfl ?_
      first | refine WL.bin rfl rfl rfl rfl (str_ne_f _ _ _ _) ?_ | refine WL.skip _ rfl rfl rfl ?_
      first | refine WL.pick rfl rfl rfl rfl ?_
      refine WL.done ?_
      refine EW.on ?_
      refine EW.cond_f rfl ?_
      refine EW.skip ?_
      refine EW.on ?_
      refine EW.exit ?_
      repeat refine px_then ?_
      refine px_block ?_
      refine EW.on ?_
      refine EW.region ?_
      first | refine WL.move rfl rfl rfl ?_
      first | refine WL.bin rfl rfl rfl rfl (int_add ‹_› _ _ _) ?_
      first | refine WL.assign rfl rfl rfl ?_
      refine WL.done ?_
      exact EW.again (t + 1, k) [0, 1, 5, 7, 9, 12] rfl ⟨hl1, hl2, hk12, hA5⟩ (meas t hl2)
    by_cases n4 : s.kind = 4
    · have hq := chg_of s n1 n9 (.inl n4)
      by_cases hk1 : k = 1
      · subst hk1
        have z5 : ¬ (0 : Int) < ((1 - 1 : Nat) : Int) := by decide
        have hcf := arm_falls hduo hCl hCn hCd hCc hCp ht2 s hok n5 n6 n7 n8 hq
        rw [hLp] at hcf
        refine EW.region ?_
        first | refine WL.move rfl rfl rfl ?_
        refine WL.load rfl rfl rfl (run_loadR bw Try.underlying53 rfl (info53 _)) ?_
        refine WL.call [.pointer (some ⟨p, 0, none⟩), .agg (stC s).toArray] enter21 rfl rfl rfl hcf ?_
        rintro x w3 ⟨rfl, ⟨L3, nn, cc, hL3, hduo3⟩, hbl⟩
        have bw3 := hbl gs _ _ bw hgL
        have d0 := (bw3.cell 0).trans (show _ = some (.int .i64 s.kind) from rfl)
        have d2 := (bw3.cell 2).trans (show _ = some (.int .i64 s.i) from rfl)
        refine ⟨_, rfl, ?_⟩
        first | refine WL.move rfl rfl rfl ?_
        first | refine WL.extract rfl rfl rfl (ext_2 _ _ _).1 ?_
        first | refine WL.extract rfl rfl rfl (ext_2 _ _ _).2 ?_
        first | refine WL.assign rfl rfl rfl ?_
        first | refine WL.assign rfl rfl rfl ?_
        refine WL.done ?_
        refine EW.on ?_
        refine EW.seq ?_
        refine EW.region ?_
        first | refine WL.field rfl rfl rfl (fld53_0 _ _) ?_
        first | refine WL.load rfl rfl rfl (ld3 d0) ?_ | refine WL.load rfl rfl rfl (ld3 d2) ?_
        first | refine WL.bin rfl rfl rfl rfl (int_ne_f rfl _ _ _) ?_ | refine WL.bin rfl rfl rfl rfl (int_ne_t ‹_› _ _ _) ?_ | refine WL.bin rfl rfl rfl rfl (int_ne_f ‹_› _ _ _) ?_ | refine WL.bin rfl rfl rfl rfl (int_ne_t (by decide) _ _ _) ?_
        first | refine WL.move rfl rfl rfl ?_
        first | refine WL.field rfl rfl rfl (fld53_0 _ _) ?_ | refine WL.skip _ rfl rfl rfl ?_
        first | refine WL.load rfl rfl rfl (ld3 d0) ?_ | refine WL.load rfl rfl rfl (ld3 d2) ?_ | refine WL.skip _ rfl rfl rfl ?_
        first | refine WL.bin rfl rfl rfl rfl (int_ne_f rfl _ _ _) ?_ | refine WL.bin rfl rfl rfl rfl (int_ne_t ‹_› _ _ _) ?_ | refine WL.bin rfl rfl rfl rfl (int_ne_f ‹_› _ _ _) ?_ | refine WL.bin rfl rfl rfl rfl (int_ne_t (by decide) _ _ _) ?_ | refine WL.skip _ rfl rfl rfl ?_
        first | refine WL.pick rfl rfl rfl rfl ?_
        first | refine WL.move rfl rfl rfl ?_
        first | refine WL.field rfl rfl rfl (fld53_0 _ _) ?_ | refine WL.skip _ rfl rfl rfl ?_
        first | refine WL.load rfl rfl rfl (ld3 d0) ?_ | refine WL.load rfl rfl rfl (ld3 d2) ?_ | refine WL.skip _ rfl rfl rfl ?_
        first | refine WL.bin rfl rfl rfl rfl (int_eq_t ‹_› _ _ _) ?_ | refine WL.bin rfl rfl rfl rfl (int_eq_f ‹_› _ _ _) ?_ | refine WL.skip _ rfl rfl rfl ?_
        first | refine WL.move rfl rfl rfl ?_ | refine WL.skip _ rfl rfl rfl ?_
        first | refine WL.field rfl rfl rfl (fld53_2 _ _) ?_ | refine WL.skip _ rfl rfl rfl ?_
        first | refine WL.load rfl rfl rfl (ld3 d0) ?_ | refine WL.load rfl rfl rfl (ld3 d2) ?_ | refine WL.skip _ rfl rfl rfl ?_
        refine WL.skip _ rfl rfl rfl ?_
        first | refine WL.bin rfl rfl rfl rfl (int_lt_t ‹_› _ _ _) ?_ | refine WL.bin rfl rfl rfl rfl (int_lt_f ‹_› _ _ _) ?_ | refine WL.skip _ rfl rfl rfl ?_
        first | refine WL.pick rfl rfl rfl rfl ?_ | refine WL.skip _ rfl rfl rfl ?_
        first | refine WL.pick rfl rfl rfl rfl ?_
        first | refine WL.assign rfl rfl rfl ?_
        refine WL.done ?_
        refine EW.on ?_
        refine EW.seq ?_
        refine EW.seq ?_
        refine EW.region ?_
        first | refine WL.move rfl rfl rfl ?_
        refine WL.done ?_
        refine EW.on ?_
        refine EW.cond_t rfl ?_
        refine EW.region ?_
        first | refine WL.move rfl rfl rfl ?_
        first | refine WL.bin rfl rfl rfl rfl (int_sub ‹_› _ _ _) ?_
        first | refine WL.assign rfl rfl rfl ?_
        refine WL.done ?_
        refine EW.on ?_
        refine EW.seq ?_
        refine EW.seq ?_
        refine EW.region ?_
        first | refine WL.move rfl rfl rfl ?_
        first | refine WL.bin rfl rfl rfl rfl (int_gt_t ‹_› _ _ _) ?_ | refine WL.bin rfl rfl rfl rfl (int_gt_f ‹_› _ _ _) ?_
        refine WL.done ?_
        refine EW.on ?_
        refine EW.cond_f rfl ?_
        refine EW.skip ?_
        refine EW.on ?_
        refine EW.seq ?_
        refine EW.seq ?_
        refine EW.region ?_
        first | refine WL.field rfl rfl rfl (fld53_0 _ _) ?_
        first | refine WL.load rfl rfl rfl (ld3 d0) ?_
        first | refine WL.bin rfl rfl rfl rfl (int_ne_f rfl _ _ _) ?_ | refine WL.bin rfl rfl rfl rfl (int_ne_t ‹_› _ _ _) ?_ | refine WL.bin rfl rfl rfl rfl (int_ne_f ‹_› _ _ _) ?_ | refine WL.bin rfl rfl rfl rfl (int_ne_t (by decide) _ _ _) ?_
        refine WL.done ?_
        refine EW.on ?_
        refine EW.cond_f rfl ?_
        refine EW.skip ?_
        rw [if_pos n4] at hduo3
        have hduo5 := hduo3
        have hM5 : M.p = q := hMp
        have hd5 := hCd
        refine EW.on ?_
        refine EW.seq ?_
        have htw := twin_any v ks torn off HKL.out w3 (HV.out.below hduo5.d.be)
        refine EW.region ?_
        first | refine WL.move rfl rfl rfl ?_
        refine WL.load rfl rfl rfl (run_loadR (HB0.out.on hduo5.d.be) Try.underlying38 rfl (info38 _ _ _)) ?_
        refine WL.call [.agg (lossC v torn off).toArray] enter20 rfl rfl rfl htw ?_
        rintro x w6 ⟨rfl, hz1, hz2⟩
        have hduo6 := hduo5.below hz1
        have hcr := arm_crash hduo6 hd5 _ ks torn off hz2 (fun k hk e => by have h1 := hduo5.c.dev.img.lt; simp [Value.ownBlock] at hk; omega) rfl rfl rfl (t + 1)
        rw [hL3, hMp] at hcr
        refine ⟨_, rfl, ?_⟩
        refine WL.call [.pointer (some ⟨q, 0, none⟩), .agg (lossC (.slice (some ⟨w3.heap.size + 2, 0, none⟩) ks.length (ks.length + 2)) torn off).toArray] enter15 rfl rfl rfl hcr ?_
        rintro x w7 ⟨rfl, hA7⟩
        refine ⟨_, rfl, ?_⟩
        first | refine WL.assign rfl rfl rfl ?_
        refine WL.done ?_
        refine EW.on ?_
        refine EW.seq ?_
        refine EW.region ?_
        first | refine WL.move rfl rfl rfl ?_
        first | refine WL.bin rfl rfl rfl rfl (int_ne_f rfl _ _ _) ?_ | refine WL.bin rfl rfl rfl rfl (int_ne_t ‹_› _ _ _) ?_ | refine WL.bin rfl rfl rfl rfl (int_ne_f ‹_› _ _ _) ?_ | refine WL.bin rfl rfl rfl rfl (int_ne_t (by decide) _ _ _) ?_
        first | refine WL.move rfl rfl rfl ?_
        first | refine WL.move rfl rfl rfl ?_ | refine WL.skip _ rfl rfl rfl ?_
        first | refine WL.bin rfl rfl rfl rfl (int_ne_f rfl _ _ _) ?_ | refine WL.bin rfl rfl rfl rfl (int_ne_t ‹_› _ _ _) ?_ | refine WL.bin rfl rfl rfl rfl (int_ne_f ‹_› _ _ _) ?_ | refine WL.bin rfl rfl rfl rfl (int_ne_t (by decide) _ _ _) ?_ | refine WL.skip _ rfl rfl rfl ?_
        first | refine WL.pick rfl rfl rfl rfl ?_
        refine WL.done ?_
        refine EW.on ?_
        refine EW.cond_f rfl ?_
        refine EW.skip ?_
        repeat refine pn_block ?_
        refine EW.on ?_
        refine EW.region ?_
        first | refine WL.move rfl rfl rfl ?_
        first | refine WL.bin rfl rfl rfl rfl (int_add ‹_› _ _ _) ?_
        first | refine WL.assign rfl rfl rfl ?_
        refine WL.done ?_
        exact EW.again (t + 1, 0) [0, 1, 5, 7, 9, 12] rfl ⟨hl1, hl2, Nat.zero_le _, hA7⟩ (meas t hl2)
      · have hj1 : 1 ≤ k - 1 := by omega
        have z5 : (0 : Int) < ((k - 1 : Nat) : Int) := Int.ofNat_lt.2 hj1
        have hcf := arm_first hduo hl3 hk12 hCl hCn hCd hCc hCp ht2 s hok n5 n6 n7 n8 (fun _ => hk1)
        rw [hLp, hq, if_pos rfl] at hcf
        refine EW.region ?_
        first | refine WL.move rfl rfl rfl ?_
        refine WL.load rfl rfl rfl (run_loadR bw Try.underlying53 rfl (info53 _)) ?_
        refine WL.call [.pointer (some ⟨p, 0, none⟩), .agg (stC s).toArray] enter21 rfl rfl rfl hcf ?_
        rintro x w3 ⟨rfl, ⟨L3, hL3, hduo3⟩, hbl⟩
        have bw3 := hbl gs _ _ bw hgL
        have d0 := (bw3.cell 0).trans (show _ = some (.int .i64 s.kind) from rfl)
        have d2 := (bw3.cell 2).trans (show _ = some (.int .i64 s.i) from rfl)
        refine ⟨_, rfl, ?_⟩
        first | refine WL.move rfl rfl rfl ?_
        first | refine WL.extract rfl rfl rfl (ext_2 _ _ _).1 ?_
        first | refine WL.extract rfl rfl rfl (ext_2 _ _ _).2 ?_
        first | refine WL.assign rfl rfl rfl ?_
        first | refine WL.assign rfl rfl rfl ?_
        refine WL.done ?_
        refine EW.on ?_
        refine EW.seq ?_
        refine EW.region ?_
        first | refine WL.field rfl rfl rfl (fld53_0 _ _) ?_
        first | refine WL.load rfl rfl rfl (ld3 d0) ?_ | refine WL.load rfl rfl rfl (ld3 d2) ?_
        first | refine WL.bin rfl rfl rfl rfl (int_ne_f rfl _ _ _) ?_ | refine WL.bin rfl rfl rfl rfl (int_ne_t ‹_› _ _ _) ?_ | refine WL.bin rfl rfl rfl rfl (int_ne_f ‹_› _ _ _) ?_ | refine WL.bin rfl rfl rfl rfl (int_ne_t (by decide) _ _ _) ?_
        first | refine WL.move rfl rfl rfl ?_
        first | refine WL.field rfl rfl rfl (fld53_0 _ _) ?_ | refine WL.skip _ rfl rfl rfl ?_
        first | refine WL.load rfl rfl rfl (ld3 d0) ?_ | refine WL.load rfl rfl rfl (ld3 d2) ?_ | refine WL.skip _ rfl rfl rfl ?_
        first | refine WL.bin rfl rfl rfl rfl (int_ne_f rfl _ _ _) ?_ | refine WL.bin rfl rfl rfl rfl (int_ne_t ‹_› _ _ _) ?_ | refine WL.bin rfl rfl rfl rfl (int_ne_f ‹_› _ _ _) ?_ | refine WL.bin rfl rfl rfl rfl (int_ne_t (by decide) _ _ _) ?_ | refine WL.skip _ rfl rfl rfl ?_
        first | refine WL.pick rfl rfl rfl rfl ?_
        first | refine WL.move rfl rfl rfl ?_
        first | refine WL.field rfl rfl rfl (fld53_0 _ _) ?_ | refine WL.skip _ rfl rfl rfl ?_
        first | refine WL.load rfl rfl rfl (ld3 d0) ?_ | refine WL.load rfl rfl rfl (ld3 d2) ?_ | refine WL.skip _ rfl rfl rfl ?_
        first | refine WL.bin rfl rfl rfl rfl (int_eq_t ‹_› _ _ _) ?_ | refine WL.bin rfl rfl rfl rfl (int_eq_f ‹_› _ _ _) ?_ | refine WL.skip _ rfl rfl rfl ?_
        first | refine WL.move rfl rfl rfl ?_ | refine WL.skip _ rfl rfl rfl ?_
        first | refine WL.field rfl rfl rfl (fld53_2 _ _) ?_ | refine WL.skip _ rfl rfl rfl ?_
        first | refine WL.load rfl rfl rfl (ld3 d0) ?_ | refine WL.load rfl rfl rfl (ld3 d2) ?_ | refine WL.skip _ rfl rfl rfl ?_
        refine WL.skip _ rfl rfl rfl ?_
        first | refine WL.bin rfl rfl rfl rfl (int_lt_t ‹_› _ _ _) ?_ | refine WL.bin rfl rfl rfl rfl (int_lt_f ‹_› _ _ _) ?_ | refine WL.skip _ rfl rfl rfl ?_
        first | refine WL.pick rfl rfl rfl rfl ?_ | refine WL.skip _ rfl rfl rfl ?_
        first | refine WL.pick rfl rfl rfl rfl ?_
        first | refine WL.assign rfl rfl rfl ?_
        refine WL.done ?_
        refine EW.on ?_
        refine EW.seq ?_
        refine EW.seq ?_
        refine EW.region ?_
        first | refine WL.move rfl rfl rfl ?_
        refine WL.done ?_
        refine EW.on ?_
        refine EW.cond_t rfl ?_
        refine EW.region ?_
        first | refine WL.move rfl rfl rfl ?_
        first | refine WL.bin rfl rfl rfl rfl (int_sub ‹_› _ _ _) ?_
        first | refine WL.assign rfl rfl rfl ?_
        refine WL.done ?_
        refine EW.on ?_
        refine EW.seq ?_
        refine EW.seq ?_
        refine EW.region ?_
        first | refine WL.move rfl rfl rfl ?_
        first | refine WL.bin rfl rfl rfl rfl (int_gt_t ‹_› _ _ _) ?_ | refine WL.bin rfl rfl rfl rfl (int_gt_f ‹_› _ _ _) ?_
        refine WL.done ?_
        refine EW.on ?_
        refine EW.cond_t rfl ?_
        refine EW.seq ?_
        have hcs := arm_second (k := k) s hduo3 hj1 hCl hCn hCd hCc hCp ht2 hok n5 n6 n7 n8
        rw [hL3, hMp] at hcs
        refine EW.region ?_
        first | refine WL.move rfl rfl rfl ?_
        refine WL.load rfl rfl rfl (run_loadR bw3 Try.underlying53 rfl (info53 _)) ?_
        refine WL.call [.pointer (some ⟨q, 0, none⟩), .agg (stC s).toArray] enter21 rfl rfl rfl hcs ?_
        rintro x w5 ⟨rfl, hA5⟩
        refine ⟨_, rfl, ?_⟩
        first | refine WL.move rfl rfl rfl ?_
        first | refine WL.extract rfl rfl rfl (ext_2 _ _ _).1 ?_
        first | refine WL.extract rfl rfl rfl (ext_2 _ _ _).2 ?_
        first | refine WL.assign rfl rfl rfl ?_
        first | refine WL.assign rfl rfl rfl ?_
        refine WL.done ?_
        refine EW.on ?_
        refine EW.seq ?_
        refine EW.seq ?_
        refine EW.region ?_
        first | refine WL.move rfl rfl rfl ?_
        first | refine WL.move rfl rfl rfl ?_
        first | refine WL.bin rfl rfl rfl rfl (int_ne_f rfl _ _ _) ?_ | refine WL.bin rfl rfl rfl rfl (int_ne_t ‹_› _ _ _) ?_ | refine WL.bin rfl rfl rfl rfl (int_ne_f ‹_› _ _ _) ?_ | refine WL.bin rfl rfl rfl rfl (int_ne_t (by decide) _ _ _) ?_
        first | refine WL.move rfl rfl rfl ?_
        first | refine WL.move rfl rfl rfl ?_ | refine WL.skip _ rfl rfl rfl ?_
        first | refine WL.move rfl rfl rfl ?_ | refine WL.skip _ rfl rfl rfl ?_
        first | refine WL.bin rfl rfl rfl rfl (str_ne_f _ _ _ _) ?_ | refine WL.skip _ rfl rfl rfl ?_
        first | refine WL.pick rfl rfl rfl rfl ?_
        refine WL.done ?_
        refine EW.on ?_
        refine EW.cond_f rfl ?_
        refine EW.skip ?_
        refine EW.on ?_
        refine EW.exit ?_
        repeat refine px_then ?_
        refine px_block ?_
        refine EW.on ?_
        refine EW.region ?_
        first | refine WL.move rfl rfl rfl ?_
        first | refine WL.bin rfl rfl rfl rfl (int_add ‹_› _ _ _) ?_
        first | refine WL.assign rfl rfl rfl ?_
        refine WL.done ?_
        exact EW.again (t + 1, k - 1) [0, 1, 5, 7, 9, 12] rfl ⟨hl1, hl2, pred_le k hk12, hA5⟩ (meas t hl2)
    have hpl := hok.ii
    by_cases hp4 : pickN s.i 5 < 4
    · have hq := chg_of s n1 n9 (.inr hp4)
      have zp : ((pickN s.i 5 : Nat) : Int) < 4 := Int.ofNat_lt.2 hp4
      by_cases hk1 : k = 1
      · subst hk1
        have z5 : ¬ (0 : Int) < ((1 - 1 : Nat) : Int) := by decide
        have hcf := arm_falls hduo hCl hCn hCd hCc hCp ht2 s hok n5 n6 n7 n8 hq
        rw [hLp] at hcf
        refine EW.region ?_
        first | refine WL.move rfl rfl rfl ?_
        refine WL.load rfl rfl rfl (run_loadR bw Try.underlying53 rfl (info53 _)) ?_
        refine WL.call [.pointer (some ⟨p, 0, none⟩), .agg (stC s).toArray] enter21 rfl rfl rfl hcf ?_
        rintro x w3 ⟨rfl, ⟨L3, nn, cc, hL3, hduo3⟩, hbl⟩
        have bw3 := hbl gs _ _ bw hgL
        have d0 := (bw3.cell 0).trans (show _ = some (.int .i64 s.kind) from rfl)
        have d2 := (bw3.cell 2).trans (show _ = some (.int .i64 s.i) from rfl)
        refine ⟨_, rfl, ?_⟩
        first | refine WL.move rfl rfl rfl ?_
        first | refine WL.extract rfl rfl rfl (ext_2 _ _ _).1 ?_
        first | refine WL.extract rfl rfl rfl (ext_2 _ _ _).2 ?_
        first | refine WL.assign rfl rfl rfl ?_
        first | refine WL.assign rfl rfl rfl ?_
        refine WL.done ?_
        refine EW.on ?_
        refine EW.seq ?_
        refine EW.region ?_
        first | refine WL.field rfl rfl rfl (fld53_0 _ _) ?_
        first | refine WL.load rfl rfl rfl (ld3 d0) ?_ | refine WL.load rfl rfl rfl (ld3 d2) ?_
        first | refine WL.bin rfl rfl rfl rfl (int_ne_f rfl _ _ _) ?_ | refine WL.bin rfl rfl rfl rfl (int_ne_t ‹_› _ _ _) ?_ | refine WL.bin rfl rfl rfl rfl (int_ne_f ‹_› _ _ _) ?_ | refine WL.bin rfl rfl rfl rfl (int_ne_t (by decide) _ _ _) ?_
        first | refine WL.move rfl rfl rfl ?_
        first | refine WL.field rfl rfl rfl (fld53_0 _ _) ?_ | refine WL.skip _ rfl rfl rfl ?_
        first | refine WL.load rfl rfl rfl (ld3 d0) ?_ | refine WL.load rfl rfl rfl (ld3 d2) ?_ | refine WL.skip _ rfl rfl rfl ?_
        first | refine WL.bin rfl rfl rfl rfl (int_ne_f rfl _ _ _) ?_ | refine WL.bin rfl rfl rfl rfl (int_ne_t ‹_› _ _ _) ?_ | refine WL.bin rfl rfl rfl rfl (int_ne_f ‹_› _ _ _) ?_ | refine WL.bin rfl rfl rfl rfl (int_ne_t (by decide) _ _ _) ?_ | refine WL.skip _ rfl rfl rfl ?_
        first | refine WL.pick rfl rfl rfl rfl ?_
        first | refine WL.move rfl rfl rfl ?_
        first | refine WL.field rfl rfl rfl (fld53_0 _ _) ?_ | refine WL.skip _ rfl rfl rfl ?_
        first | refine WL.load rfl rfl rfl (ld3 d0) ?_ | refine WL.load rfl rfl rfl (ld3 d2) ?_ | refine WL.skip _ rfl rfl rfl ?_
        first | refine WL.bin rfl rfl rfl rfl (int_eq_t ‹_› _ _ _) ?_ | refine WL.bin rfl rfl rfl rfl (int_eq_f ‹_› _ _ _) ?_ | refine WL.skip _ rfl rfl rfl ?_
        first | refine WL.move rfl rfl rfl ?_ | refine WL.skip _ rfl rfl rfl ?_
        first | refine WL.field rfl rfl rfl (fld53_2 _ _) ?_ | refine WL.skip _ rfl rfl rfl ?_
        first | refine WL.load rfl rfl rfl (ld3 d0) ?_ | refine WL.load rfl rfl rfl (ld3 d2) ?_ | refine WL.skip _ rfl rfl rfl ?_
        refine WL.call [.int .i64 s.i, .int .i64 5] enter9 rfl rfl rfl (pick_any s.i 5 (by decide) (by decide) hok.ii _) ?_
        rintro x w4 ⟨rfl, hz⟩
        rw [hz]; clear hz w4
        refine ⟨_, rfl, ?_⟩
        first | refine WL.bin rfl rfl rfl rfl (int_lt_t ‹_› _ _ _) ?_ | refine WL.bin rfl rfl rfl rfl (int_lt_f ‹_› _ _ _) ?_ | refine WL.skip _ rfl rfl rfl ?_
        first | refine WL.pick rfl rfl rfl rfl ?_ | refine WL.skip _ rfl rfl rfl ?_
        first | refine WL.pick rfl rfl rfl rfl ?_
        first | refine WL.assign rfl rfl rfl ?_
        refine WL.done ?_
        refine EW.on ?_
        refine EW.seq ?_
        refine EW.seq ?_
        refine EW.region ?_
        first | refine WL.move rfl rfl rfl ?_
        refine WL.done ?_
        refine EW.on ?_
        refine EW.cond_t rfl ?_
        refine EW.region ?_
        first | refine WL.move rfl rfl rfl ?_
        first | refine WL.bin rfl rfl rfl rfl (int_sub ‹_› _ _ _) ?_
        first | refine WL.assign rfl rfl rfl ?_
        refine WL.done ?_
        refine EW.on ?_
        refine EW.seq ?_
        refine EW.seq ?_
        refine EW.region ?_
        first | refine WL.move rfl rfl rfl ?_
        first | refine WL.bin rfl rfl rfl rfl (int_gt_t ‹_› _ _ _) ?_ | refine WL.bin rfl rfl rfl rfl (int_gt_f ‹_› _ _ _) ?_
        refine WL.done ?_
        refine EW.on ?_
        refine EW.cond_f rfl ?_
        refine EW.skip ?_
        refine EW.on ?_
        refine EW.seq ?_
        refine EW.seq ?_
        refine EW.region ?_
        first | refine WL.field rfl rfl rfl (fld53_0 _ _) ?_
        first | refine WL.load rfl rfl rfl (ld3 d0) ?_
        first | refine WL.bin rfl rfl rfl rfl (int_ne_f rfl _ _ _) ?_ | refine WL.bin rfl rfl rfl rfl (int_ne_t ‹_› _ _ _) ?_ | refine WL.bin rfl rfl rfl rfl (int_ne_f ‹_› _ _ _) ?_ | refine WL.bin rfl rfl rfl rfl (int_ne_t (by decide) _ _ _) ?_
        refine WL.done ?_
        refine EW.on ?_
        refine EW.cond_t rfl ?_
        rw [if_neg n4] at hduo3
        have hcs := arm_other hduo3 hCl hCc hCp ht2 s hok
        rw [hMp] at hcs
        refine EW.region ?_
        first | refine WL.move rfl rfl rfl ?_
        refine WL.load rfl rfl rfl (run_loadR bw3 Try.underlying53 rfl (info53 _)) ?_
        refine WL.call [.pointer (some ⟨q, 0, none⟩), .agg (stC s).toArray] enter21 rfl rfl rfl hcs ?_
        rintro x w5 ⟨rfl, M5, hM5, hduo5⟩
        refine ⟨_, rfl, ?_⟩
        refine WL.done ?_
        have hd5 := (armed_last C hCn hCl ks torn off s n5 n6 n7 n8 hCd hq).2.1
        refine EW.on ?_
        refine EW.seq ?_
        have htw := twin_any v ks torn off HKL.out w5 (HV.out.below hduo5.d.be)
        refine EW.region ?_
        first | refine WL.move rfl rfl rfl ?_
        refine WL.load rfl rfl rfl (run_loadR (HB0.out.on hduo5.d.be) Try.underlying38 rfl (info38 _ _ _)) ?_
        refine WL.call [.agg (lossC v torn off).toArray] enter20 rfl rfl rfl htw ?_
        rintro x w6 ⟨rfl, hz1, hz2⟩
        have hduo6 := hduo5.below hz1
        have hcr := arm_crash hduo6 hd5 _ ks torn off hz2 (fun k hk e => by have h1 := hduo5.c.dev.img.lt; simp [Value.ownBlock] at hk; omega) rfl rfl rfl (t + 1)
        rw [hL3, hM5] at hcr
        refine ⟨_, rfl, ?_⟩
        refine WL.call [.pointer (some ⟨q, 0, none⟩), .agg (lossC (.slice (some ⟨w5.heap.size + 2, 0, none⟩) ks.length (ks.length + 2)) torn off).toArray] enter15 rfl rfl rfl hcr ?_
        rintro x w7 ⟨rfl, hA7⟩
        refine ⟨_, rfl, ?_⟩
        first | refine WL.assign rfl rfl rfl ?_
        refine WL.done ?_
        refine EW.on ?_
        refine EW.seq ?_
        refine EW.region ?_
        first | refine WL.move rfl rfl rfl ?_
        first | refine WL.bin rfl rfl rfl rfl (int_ne_f rfl _ _ _) ?_ | refine WL.bin rfl rfl rfl rfl (int_ne_t ‹_› _ _ _) ?_ | refine WL.bin rfl rfl rfl rfl (int_ne_f ‹_› _ _ _) ?_ | refine WL.bin rfl rfl rfl rfl (int_ne_t (by decide) _ _ _) ?_
        first | refine WL.move rfl rfl rfl ?_
        first | refine WL.move rfl rfl rfl ?_ | refine WL.skip _ rfl rfl rfl ?_
        first | refine WL.bin rfl rfl rfl rfl (int_ne_f rfl _ _ _) ?_ | refine WL.bin rfl rfl rfl rfl (int_ne_t ‹_› _ _ _) ?_ | refine WL.bin rfl rfl rfl rfl (int_ne_f ‹_› _ _ _) ?_ | refine WL.bin rfl rfl rfl rfl (int_ne_t (by decide) _ _ _) ?_ | refine WL.skip _ rfl rfl rfl ?_
        first | refine WL.pick rfl rfl rfl rfl ?_
        refine WL.done ?_
        refine EW.on ?_
        refine EW.cond_f rfl ?_
        refine EW.skip ?_
        repeat refine pn_block ?_
        refine EW.on ?_
        refine EW.region ?_
        first | refine WL.move rfl rfl rfl ?_
        first | refine WL.bin rfl rfl rfl rfl (int_add ‹_› _ _ _) ?_
        first | refine WL.assign rfl rfl rfl ?_
        refine WL.done ?_
        exact EW.again (t + 1, 0) [0, 1, 5, 7, 9, 12] rfl ⟨hl1, hl2, Nat.zero_le _, hA7⟩ (meas t hl2)
      · have hj1 : 1 ≤ k - 1 := by omega
        have z5 : (0 : Int) < ((k - 1 : Nat) : Int) := Int.ofNat_lt.2 hj1
        have hcf := arm_first hduo hl3 hk12 hCl hCn hCd hCc hCp ht2 s hok n5 n6 n7 n8 (fun _ => hk1)
        rw [hLp, hq, if_pos rfl] at hcf
        refine EW.region ?_
        first | refine WL.move rfl rfl rfl ?_
        refine WL.load rfl rfl rfl (run_loadR bw Try.underlying53 rfl (info53 _)) ?_
        refine WL.call [.pointer (some ⟨p, 0, none⟩), .agg (stC s).toArray] enter21 rfl rfl rfl hcf ?_
        rintro x w3 ⟨rfl, ⟨L3, hL3, hduo3⟩, hbl⟩
        have bw3 := hbl gs _ _ bw hgL
        have d0 := (bw3.cell 0).trans (show _ = some (.int .i64 s.kind) from rfl)
        have d2 := (bw3.cell 2).trans (show _ = some (.int .i64 s.i) from rfl)
        refine ⟨_, rfl, ?_⟩
        first | refine WL.move rfl rfl rfl ?_
        first | refine WL.extract rfl rfl rfl (ext_2 _ _ _).1 ?_
        first | refine WL.extract rfl rfl rfl (ext_2 _ _ _).2 ?_
        first | refine WL.assign rfl rfl rfl ?_
        first | refine WL.assign rfl rfl rfl ?_
        refine WL.done ?_
        refine EW.on ?_
        refine EW.seq ?_
        refine EW.region ?_
        first | refine WL.field rfl rfl rfl (fld53_0 _ _) ?_
        first | refine WL.load rfl rfl rfl (ld3 d0) ?_ | refine WL.load rfl rfl rfl (ld3 d2) ?_
        first | refine WL.bin rfl rfl rfl rfl (int_ne_f rfl _ _ _) ?_ | refine WL.bin rfl rfl rfl rfl (int_ne_t ‹_› _ _ _) ?_ | refine WL.bin rfl rfl rfl rfl (int_ne_f ‹_› _ _ _) ?_ | refine WL.bin rfl rfl rfl rfl (int_ne_t (by decide) _ _ _) ?_
        first | refine WL.move rfl rfl rfl ?_
        first | refine WL.field rfl rfl rfl (fld53_0 _ _) ?_ | refine WL.skip _ rfl rfl rfl ?_
        first | refine WL.load rfl rfl rfl (ld3 d0) ?_ | refine WL.load rfl rfl rfl (ld3 d2) ?_ | refine WL.skip _ rfl rfl rfl ?_
        first | refine WL.bin rfl rfl rfl rfl (int_ne_f rfl _ _ _) ?_ | refine WL.bin rfl rfl rfl rfl (int_ne_t ‹_› _ _ _) ?_ | refine WL.bin rfl rfl rfl rfl (int_ne_f ‹_› _ _ _) ?_ | refine WL.bin rfl rfl rfl rfl (int_ne_t (by decide) _ _ _) ?_ | refine WL.skip _ rfl rfl rfl ?_
        first | refine WL.pick rfl rfl rfl rfl ?_
        first | refine WL.move rfl rfl rfl ?_
        first | refine WL.field rfl rfl rfl (fld53_0 _ _) ?_ | refine WL.skip _ rfl rfl rfl ?_
        first | refine WL.load rfl rfl rfl (ld3 d0) ?_ | refine WL.load rfl rfl rfl (ld3 d2) ?_ | refine WL.skip _ rfl rfl rfl ?_
        first | refine WL.bin rfl rfl rfl rfl (int_eq_t ‹_› _ _ _) ?_ | refine WL.bin rfl rfl rfl rfl (int_eq_f ‹_› _ _ _) ?_ | refine WL.skip _ rfl rfl rfl ?_
        first | refine WL.move rfl rfl rfl ?_ | refine WL.skip _ rfl rfl rfl ?_
        first | refine WL.field rfl rfl rfl (fld53_2 _ _) ?_ | refine WL.skip _ rfl rfl rfl ?_
        first | refine WL.load rfl rfl rfl (ld3 d0) ?_ | refine WL.load rfl rfl rfl (ld3 d2) ?_ | refine WL.skip _ rfl rfl rfl ?_
        refine WL.call [.int .i64 s.i, .int .i64 5] enter9 rfl rfl rfl (pick_any s.i 5 (by decide) (by decide) hok.ii _) ?_
        rintro x w4 ⟨rfl, hz⟩
        rw [hz]; clear hz w4
        refine ⟨_, rfl, ?_⟩
        first | refine WL.bin rfl rfl rfl rfl (int_lt_t ‹_› _ _ _) ?_ | refine WL.bin rfl rfl rfl rfl (int_lt_f ‹_› _ _ _) ?_ | refine WL.skip _ rfl rfl rfl ?_
        first | refine WL.pick rfl rfl rfl rfl ?_ | refine WL.skip _ rfl rfl rfl ?_
        first | refine WL.pick rfl rfl rfl rfl ?_
        first | refine WL.assign rfl rfl rfl ?_
        refine WL.done ?_
        refine EW.on ?_
        refine EW.seq ?_
        refine EW.seq ?_
        refine EW.region ?_
        first | refine WL.move rfl rfl rfl ?_
        refine WL.done ?_
        refine EW.on ?_
        refine EW.cond_t rfl ?_
        refine EW.region ?_
        first | refine WL.move rfl rfl rfl ?_
        first | refine WL.bin rfl rfl rfl rfl (int_sub ‹_› _ _ _) ?_
        first | refine WL.assign rfl rfl rfl ?_
        refine WL.done ?_
        refine EW.on ?_
        refine EW.seq ?_
        refine EW.seq ?_
        refine EW.region ?_
        first | refine WL.move rfl rfl rfl ?_
        first | refine WL.bin rfl rfl rfl rfl (int_gt_t ‹_› _ _ _) ?_ | refine WL.bin rfl rfl rfl rfl (int_gt_f ‹_› _ _ _) ?_
        refine WL.done ?_
        refine EW.on ?_
        refine EW.cond_t rfl ?_
        refine EW.seq ?_
        have hcs := arm_second (k := k) s hduo3 hj1 hCl hCn hCd hCc hCp ht2 hok n5 n6 n7 n8
        rw [hL3, hMp] at hcs
        refine EW.region ?_
        first | refine WL.move rfl rfl rfl ?_
        refine WL.load rfl rfl rfl (run_loadR bw3 Try.underlying53 rfl (info53 _)) ?_
        refine WL.call [.pointer (some ⟨q, 0, none⟩), .agg (stC s).toArray] enter21 rfl rfl rfl hcs ?_
        rintro x w5 ⟨rfl, hA5⟩
        refine ⟨_, rfl, ?_⟩
        first | refine WL.move rfl rfl rfl ?_
        first | refine WL.extract rfl rfl rfl (ext_2 _ _ _).1 ?_
        first | refine WL.extract rfl rfl rfl (ext_2 _ _ _).2 ?_
        first | refine WL.assign rfl rfl rfl ?_
        first | refine WL.assign rfl rfl rfl ?_
        refine WL.done ?_
        refine EW.on ?_
        refine EW.seq ?_
        refine EW.seq ?_
        refine EW.region ?_
        first | refine WL.move rfl rfl rfl ?_
        first | refine WL.move rfl rfl rfl ?_
        first | refine WL.bin rfl rfl rfl rfl (int_ne_f rfl _ _ _) ?_ | refine WL.bin rfl rfl rfl rfl (int_ne_t ‹_› _ _ _) ?_ | refine WL.bin rfl rfl rfl rfl (int_ne_f ‹_› _ _ _) ?_ | refine WL.bin rfl rfl rfl rfl (int_ne_t (by decide) _ _ _) ?_
        first | refine WL.move rfl rfl rfl ?_
        first | refine WL.move rfl rfl rfl ?_ | refine WL.skip _ rfl rfl rfl ?_
        first | refine WL.move rfl rfl rfl ?_ | refine WL.skip _ rfl rfl rfl ?_
        first | refine WL.bin rfl rfl rfl rfl (str_ne_f _ _ _ _) ?_ | refine WL.skip _ rfl rfl rfl ?_
        first | refine WL.pick rfl rfl rfl rfl ?_
        refine WL.done ?_
        refine EW.on ?_
        refine EW.cond_f rfl ?_
        refine EW.skip ?_
        refine EW.on ?_
        refine EW.exit ?_
        repeat refine px_then ?_
        refine px_block ?_
        refine EW.on ?_
        refine EW.region ?_
        first | refine WL.move rfl rfl rfl ?_
        first | refine WL.bin rfl rfl rfl rfl (int_add ‹_› _ _ _) ?_
        first | refine WL.assign rfl rfl rfl ?_
        refine WL.done ?_
        exact EW.again (t + 1, k - 1) [0, 1, 5, 7, 9, 12] rfl ⟨hl1, hl2, pred_le k hk12, hA5⟩ (meas t hl2)
    · have hq := quiet_of s (.inr (.inr ⟨n4, hp4⟩))
      have zp : ¬ ((pickN s.i 5 : Nat) : Int) < 4 := fun h => hp4 (Int.ofNat_lt.1 h)
      have hcf := arm_first hduo hl3 hk12 hCl hCn hCd hCc hCp ht2 s hok n5 n6 n7 n8 (fun h => by rw [hq] at h; cases h)
      rw [hLp, hq, if_neg (by decide)] at hcf
      refine EW.region ?_
      first | refine WL.move rfl rfl rfl ?_
      refine WL.load rfl rfl rfl (run_loadR bw Try.underlying53 rfl (info53 _)) ?_
      refine WL.call [.pointer (some ⟨p, 0, none⟩), .agg (stC s).toArray] enter21 rfl rfl rfl hcf ?_
      rintro x w3 ⟨rfl, ⟨L3, hL3, hduo3⟩, hbl⟩
      have bw3 := hbl gs _ _ bw hgL
      have d0 := (bw3.cell 0).trans (show _ = some (.int .i64 s.kind) from rfl)
      have d2 := (bw3.cell 2).trans (show _ = some (.int .i64 s.i) from rfl)
      refine ⟨_, rfl, ?_⟩
      first | refine WL.move rfl rfl rfl ?_
      first | refine WL.extract rfl rfl rfl (ext_2 _ _ _).1 ?_
      first | refine WL.extract rfl rfl rfl (ext_2 _ _ _).2 ?_
      first | refine WL.assign rfl rfl rfl ?_
      first | refine WL.assign rfl rfl rfl ?_
      refine WL.done ?_
      refine EW.on ?_
      refine EW.seq ?_
      refine EW.region ?_
      first | refine WL.field rfl rfl rfl (fld53_0 _ _) ?_
      first | refine WL.load rfl rfl rfl (ld3 d0) ?_ | refine WL.load rfl rfl rfl (ld3 d2) ?_
      first | refine WL.bin rfl rfl rfl rfl (int_ne_f rfl _ _ _) ?_ | refine WL.bin rfl rfl rfl rfl (int_ne_t ‹_› _ _ _) ?_ | refine WL.bin rfl rfl rfl rfl (int_ne_f ‹_› _ _ _) ?_ | refine WL.bin rfl rfl rfl rfl (int_ne_t (by decide) _ _ _) ?_
      first | refine WL.move rfl rfl rfl ?_
      first | refine WL.field rfl rfl rfl (fld53_0 _ _) ?_ | refine WL.skip _ rfl rfl rfl ?_
      first | refine WL.load rfl rfl rfl (ld3 d0) ?_ | refine WL.load rfl rfl rfl (ld3 d2) ?_ | refine WL.skip _ rfl rfl rfl ?_
      first | refine WL.bin rfl rfl rfl rfl (int_ne_f rfl _ _ _) ?_ | refine WL.bin rfl rfl rfl rfl (int_ne_t ‹_› _ _ _) ?_ | refine WL.bin rfl rfl rfl rfl (int_ne_f ‹_› _ _ _) ?_ | refine WL.bin rfl rfl rfl rfl (int_ne_t (by decide) _ _ _) ?_ | refine WL.skip _ rfl rfl rfl ?_
      first | refine WL.pick rfl rfl rfl rfl ?_
      first | refine WL.move rfl rfl rfl ?_
      first | refine WL.field rfl rfl rfl (fld53_0 _ _) ?_ | refine WL.skip _ rfl rfl rfl ?_
      first | refine WL.load rfl rfl rfl (ld3 d0) ?_ | refine WL.load rfl rfl rfl (ld3 d2) ?_ | refine WL.skip _ rfl rfl rfl ?_
      first | refine WL.bin rfl rfl rfl rfl (int_eq_t ‹_› _ _ _) ?_ | refine WL.bin rfl rfl rfl rfl (int_eq_f ‹_› _ _ _) ?_ | refine WL.skip _ rfl rfl rfl ?_
      first | refine WL.move rfl rfl rfl ?_ | refine WL.skip _ rfl rfl rfl ?_
      first | refine WL.field rfl rfl rfl (fld53_2 _ _) ?_ | refine WL.skip _ rfl rfl rfl ?_
      first | refine WL.load rfl rfl rfl (ld3 d0) ?_ | refine WL.load rfl rfl rfl (ld3 d2) ?_ | refine WL.skip _ rfl rfl rfl ?_
      refine WL.call [.int .i64 s.i, .int .i64 5] enter9 rfl rfl rfl (pick_any s.i 5 (by decide) (by decide) hok.ii _) ?_
      rintro x w4 ⟨rfl, hz⟩
      rw [hz]; clear hz w4
      refine ⟨_, rfl, ?_⟩
      first | refine WL.bin rfl rfl rfl rfl (int_lt_t ‹_› _ _ _) ?_ | refine WL.bin rfl rfl rfl rfl (int_lt_f ‹_› _ _ _) ?_ | refine WL.skip _ rfl rfl rfl ?_
      first | refine WL.pick rfl rfl rfl rfl ?_ | refine WL.skip _ rfl rfl rfl ?_
      first | refine WL.pick rfl rfl rfl rfl ?_
      first | refine WL.assign rfl rfl rfl ?_
      refine WL.done ?_
      refine EW.on ?_
      refine EW.seq ?_
      refine EW.seq ?_
      refine EW.region ?_
      first | refine WL.move rfl rfl rfl ?_
      refine WL.done ?_
      refine EW.on ?_
      refine EW.cond_f rfl ?_
      refine EW.skip ?_
      refine EW.on ?_
      refine EW.seq ?_
      refine EW.seq ?_
      refine EW.region ?_
      first | refine WL.move rfl rfl rfl ?_
      first | refine WL.bin rfl rfl rfl rfl (int_gt_t ‹_› _ _ _) ?_ | refine WL.bin rfl rfl rfl rfl (int_gt_f ‹_› _ _ _) ?_
      refine WL.done ?_
      refine EW.on ?_
      refine EW.cond_t rfl ?_
      refine EW.seq ?_
      have hcs := arm_second (k := k) s hduo3 hl3 hCl hCn hCd hCc hCp ht2 hok n5 n6 n7 n8
      rw [hL3, hMp] at hcs
      refine EW.region ?_
      first | refine WL.move rfl rfl rfl ?_
      refine WL.load rfl rfl rfl (run_loadR bw3 Try.underlying53 rfl (info53 _)) ?_
      refine WL.call [.pointer (some ⟨q, 0, none⟩), .agg (stC s).toArray] enter21 rfl rfl rfl hcs ?_
      rintro x w5 ⟨rfl, hA5⟩
      refine ⟨_, rfl, ?_⟩
      first | refine WL.move rfl rfl rfl ?_
      first | refine WL.extract rfl rfl rfl (ext_2 _ _ _).1 ?_
      first | refine WL.extract rfl rfl rfl (ext_2 _ _ _).2 ?_
      first | refine WL.assign rfl rfl rfl ?_
      first | refine WL.assign rfl rfl rfl ?_
      refine WL.done ?_
      refine EW.on ?_
      refine EW.seq ?_
      refine EW.seq ?_
      refine EW.region ?_
      first | refine WL.move rfl rfl rfl ?_
      first | refine WL.move rfl rfl rfl ?_
      first | refine WL.bin rfl rfl rfl rfl (int_ne_f rfl _ _ _) ?_ | refine WL.bin rfl rfl rfl rfl (int_ne_t ‹_› _ _ _) ?_ | refine WL.bin rfl rfl rfl rfl (int_ne_f ‹_› _ _ _) ?_ | refine WL.bin rfl rfl rfl rfl (int_ne_t (by decide) _ _ _) ?_
      first | refine WL.move rfl rfl rfl ?_
      first | refine WL.move rfl rfl rfl ?_ | refine WL.skip _ rfl rfl rfl ?_
      first | refine WL.move rfl rfl rfl ?_ | refine WL.skip _ rfl rfl rfl ?_
      first | refine WL.bin rfl rfl rfl rfl (str_ne_f _ _ _ _) ?_ | refine WL.skip _ rfl rfl rfl ?_
      first | refine WL.pick rfl rfl rfl rfl ?_
      refine WL.done ?_
      refine EW.on ?_
      refine EW.cond_f rfl ?_
      refine EW.skip ?_
      refine EW.on ?_
      refine EW.exit ?_
      repeat refine px_then ?_
      refine px_block ?_
      refine EW.on ?_
      refine EW.region ?_
      first | refine WL.move rfl rfl rfl ?_
      first | refine WL.bin rfl rfl rfl rfl (int_add ‹_› _ _ _) ?_
      first | refine WL.assign rfl rfl rfl ?_
      refine WL.done ?_
      exact EW.again (t + 1, k) [0, 1, 5, 7, 9, 12] rfl ⟨hl1, hl2, hk12, hA5⟩ (meas t hl2)
  · by_cases hl1 : t < n
    · by_cases hl2 : t < 200
      · have z1 : (t : Int) < (n : Int) := Int.ofNat_lt.2 hl1
        have z2 : (t : Int) < 200 := Int.ofNat_lt.2 hl2
        have z3 : ¬ (0 : Int) < (k : Int) := fun h => hlt ⟨hl1, hl2, Int.ofNat_lt.1 h⟩
        refine EW.seq ?_
        refine EW.seq ?_
        refine EW.region ?_
        first | refine WL.move rfl rfl rfl ?_
        first | refine WL.move rfl rfl rfl ?_
        refine WL.len rfl rfl rfl (hlen _ _) ?_
        first | refine WL.bin rfl rfl rfl rfl (int_lt_t ‹_› _ _ _) ?_ | refine WL.bin rfl rfl rfl rfl (int_lt_f ‹_› _ _ _) ?_
        first | refine WL.move rfl rfl rfl ?_
        first | refine WL.move rfl rfl rfl ?_ | refine WL.skip _ rfl rfl rfl ?_
        first | refine WL.bin rfl rfl rfl rfl (int_lt_t ‹_› _ _ _) ?_ | refine WL.bin rfl rfl rfl rfl (int_lt_f ‹_› _ _ _) ?_ | refine WL.skip _ rfl rfl rfl ?_
        first | refine WL.pick rfl rfl rfl rfl ?_
        first | refine WL.move rfl rfl rfl ?_
        first | refine WL.move rfl rfl rfl ?_ | refine WL.skip _ rfl rfl rfl ?_
        first | refine WL.bin rfl rfl rfl rfl (int_gt_t ‹_› _ _ _) ?_ | refine WL.bin rfl rfl rfl rfl (int_gt_f ‹_› _ _ _) ?_ | refine WL.skip _ rfl rfl rfl ?_
        first | refine WL.pick rfl rfl rfl rfl ?_
        refine WL.done ?_
        refine EW.on ?_
        refine EW.cond_f rfl ?_
        refine EW.exit ?_
        repeat refine px_then ?_
        refine px_block ?_
        refine EW.on ?_
        refine EW.seq ?_
        obtain ⟨L, M, D, C, hLp, hMp, hduo0, hcase⟩ := hs
        obtain ⟨hdn, him, hpn⟩ : D.down = C.down ∧ D.img = C.img ∧ D.pen = C.pen := by
          rcases hcase with ⟨_, h, _⟩ | ⟨_, h1, h2, h3, h4, h5⟩
          · subst h; exact ⟨rfl, rfl, rfl⟩
          · exact ⟨by rw [h4, h5], h1, by rw [h2, h3]⟩
        have bd : Below wr.heap.size wr { wr with drawn := wr.drawn + 1 } := below_drawn wr
        have hduo := hduo0.below bd
        obtain ⟨wd, hwd⟩ : ∃ wd, { wr with drawn := wr.drawn + 1 } = wd := ⟨_, rfl⟩
        rw [hwd] at hduo
        clear bd
        have hda := down_any hduo.d.dev
        have hdb := down_any hduo.c.dev
        rw [hLp, hdn] at hda
        rw [hMp] at hdb
        have ima := image_any hduo.d.dev
        rw [hLp, him] at ima
        have b1 : Blk (wd.alloc (.cells (C.img.map byt).toArray 5)) wd.heap.size (C.img.map byt) 5 := Blk.new _ _ _
        have be1 : Below wd.heap.size wd (wd.alloc (.cells (C.img.map byt).toArray 5)) := below_new _ _
        have hduo1 := hduo.below be1
        obtain ⟨w1, hw1⟩ : ∃ w1, wd.alloc (.cells (C.img.map byt).toArray 5) = w1 := ⟨_, rfl⟩
        rw [hw1] at b1 be1 hduo1 ima
        have imb := image_any hduo1.c.dev
        rw [hMp] at imb
        have b2 : Blk (w1.alloc (.cells (C.img.map byt).toArray 5)) w1.heap.size (C.img.map byt) 5 := Blk.new _ _ _
        have be2 : Below w1.heap.size w1 (w1.alloc (.cells (C.img.map byt).toArray 5)) := below_new _ _
        have hduo2 := hduo1.below be2
        obtain ⟨w2, hw2⟩ : ∃ w2, w1.alloc (.cells (C.img.map byt).toArray 5) = w2 := ⟨_, rfl⟩
        rw [hw2] at b2 be2 hduo2 imb
        have ca := cache_any hduo2.d.dev
        rw [hLp, hpn] at ca
        have cvt : ∀ (g : Nat) (W : World), Blk W g (C.img.map byt) 5 → (Go.convert 34 9 (.slice (some ⟨g, 0, none⟩) C.img.length C.img.length)).run Try.prog W = .ok (.string ⟨C.img.toArray⟩) W := fun g W h => Has.convert (.inr ⟨⟨g, 0, none⟩, C.img.length, rfl, Nat.le_refl _, fun i u hu => by rw [add_plain, h.cell, List.getElem?_map, hu]; rfl⟩)
        refine EW.ord [(0, false), (2, false), (1, true), (3, true), (4, false), (5, false), (6, false), (9, false), (7, true), (8, false), (10, true), (11, false), (12, false), (13, false), (14, false), (15, false), (17, false), (16, true), (18, true), (19, true), (20, false), (21, false)] (fun _ => True) (by kernel_rfl) rfl (by kernel_rfl) trivial ?_
        rw [hwd]
        simp only [ordOps, List.getD_cons_zero, List.getD_cons_succ]
        refine OE.move rfl rfl rfl ?_
        refine OE.move rfl rfl rfl ?_
        refine OE.call [.pointer (some ⟨p, 0, none⟩)] (.bool C.down) (fun _ => True) (fun W => W = wd) enter22 rfl rfl rfl (fun _ _ => trivial) (fun _ _ => trivial) (fun W hW => by rw [hW]; exact hda) ?_
        refine OE.call [.pointer (some ⟨q, 0, none⟩)] (.bool C.down) (fun _ => True) (fun W => W = wd) enter22 rfl rfl rfl (fun _ _ => trivial) (fun _ _ => trivial) (fun W hW => by rw [hW]; exact hdb) ?_
        refine OE.bin rfl rfl rfl rfl (fun W => bool_eq_t _ W _ _) ?_
        refine OE.move rfl rfl rfl ?_
        refine OE.move rfl rfl rfl ?_
        refine OE.move rfl rfl rfl ?_
        refine OE.call [.pointer (some ⟨p, 0, none⟩)] (.slice (some ⟨wd.heap.size, 0, none⟩) C.img.length C.img.length) (fun W => Below w1.heap.size w1 W) (fun W => W = w1) enter16 rfl rfl rfl (fun W hW => by rw [hW]; exact Below.refl _ _) (fun _ _ => trivial) (fun W hW => by rw [hW]; exact ima) ?_
        refine OE.conv rfl rfl rfl (fun W hW => cvt _ W (b1.on hW)) ?_
        refine OE.call [.pointer (some ⟨q, 0, none⟩)] (.slice (some ⟨w1.heap.size, 0, none⟩) C.img.length C.img.length) (fun W => Below w2.heap.size w2 W) (fun W => W = w2) enter16 rfl rfl rfl (fun W hW => by rw [hW]; exact Below.refl _ _) (fun W hW => be2.trans (hW.mono be2.size)) (fun W hW => by rw [hW]; exact imb) ?_
        refine OE.conv rfl rfl rfl (fun W hW => cvt _ W (b2.on hW)) ?_
        refine OE.bin rfl rfl rfl rfl (fun W => str_eq_t _ W _ _) ?_
        refine OE.pick rfl rfl rfl rfl ?_
        refine OE.move rfl rfl rfl ?_
        refine OE.move rfl rfl rfl ?_
        refine OE.move rfl rfl rfl ?_
        refine OE.call [.pointer (some ⟨p, 0, none⟩)] (.slice (some ⟨w2.heap.size, 0, none⟩) C.pen.length C.pen.length) (fun W => Below w2.heap.size w2 W) (fun W => Below w2.heap.size w2 W ∧ W.heap.size = w2.heap.size + 1 + 2 * C.pen.length ∧ ∃ gs, Pen W w2.heap.size gs C.pen) enter24 rfl rfl rfl (fun W hW => hW.1) (fun _ h => h) (fun W hW => by rw [hW]; exact ca) ?_
        refine OE.call [.pointer (some ⟨q, 0, none⟩)] (.slice (some ⟨w2.heap.size + 1 + 2 * C.pen.length, 0, none⟩) C.pen.length C.pen.length) (fun W => Below w2.heap.size w2 W) (fun W => Below w2.heap.size w2 W ∧ (∃ gs, Pen W w2.heap.size gs C.pen) ∧ ∃ gs, Pen W (w2.heap.size + 1 + 2 * C.pen.length) gs C.pen) enter24 rfl rfl rfl (fun W hW => hW.1) (fun _ h => h) (fun W hW => by
          obtain ⟨h1, h2, gs, h3⟩ := hW
          have hc := cache_any (hduo2.below h1).c.dev
          rw [hMp, h2] at hc
          exact hc.mono fun x W' ⟨e1, e2, e3, gs', e4⟩ => ⟨e1, h1.trans (e2.mono (by rw [← h2]; exact h1.size)), ⟨gs, h3.below (by rw [h2]; exact e2)⟩, gs', e4⟩) ?_
        refine OE.call [.slice (some ⟨w2.heap.size, 0, none⟩) C.pen.length C.pen.length, .slice (some ⟨w2.heap.size + 1 + 2 * C.pen.length, 0, none⟩) C.pen.length C.pen.length] (.bool true) (fun W => Below w2.heap.size w2 W) (fun W => Below w2.heap.size w2 W) enter23 rfl rfl rfl (fun W hW => hW) (fun _ h => h) (fun W hW => by
          obtain ⟨h1, ⟨gs, h2⟩, gs', h3⟩ := hW
          exact (same_yes _ _ gs gs' C.pen hduo2.c.dev.ok.few (fun x hx => (hduo2.c.dev.ok.sec x hx).2) W h2 h3).mono fun x W' ⟨e1, e2⟩ => ⟨e1, h1.trans (e2.mono h1.size)⟩) ?_
        refine OE.pick rfl rfl rfl rfl ?_
        refine OE.assign rfl rfl rfl ?_
        refine fun a ha W hW => EW.on (EW.ret (EW.returns Try.results5 rfl ⟨rfl, ?_⟩)) a ha
        exact BE0.out.trans ((hduo2.d.be.trans (hW.mono hduo2.d.be.size)).mono BE0.out.size)
      · have z1 : (t : Int) < (n : Int) := Int.ofNat_lt.2 hl1
        have z2 : ¬ (t : Int) < 200 := fun h => hl2 (Int.ofNat_lt.1 h)
        refine EW.seq ?_
        refine EW.seq ?_
        refine EW.region ?_
        first | refine WL.move rfl rfl rfl ?_
        first | refine WL.move rfl rfl rfl ?_
        refine WL.len rfl rfl rfl (hlen _ _) ?_
        first | refine WL.bin rfl rfl rfl rfl (int_lt_t ‹_› _ _ _) ?_ | refine WL.bin rfl rfl rfl rfl (int_lt_f ‹_› _ _ _) ?_
        first | refine WL.move rfl rfl rfl ?_
        first | refine WL.move rfl rfl rfl ?_ | refine WL.skip _ rfl rfl rfl ?_
        first | refine WL.bin rfl rfl rfl rfl (int_lt_t ‹_› _ _ _) ?_ | refine WL.bin rfl rfl rfl rfl (int_lt_f ‹_› _ _ _) ?_ | refine WL.skip _ rfl rfl rfl ?_
        first | refine WL.pick rfl rfl rfl rfl ?_
        first | refine WL.move rfl rfl rfl ?_
        first | refine WL.move rfl rfl rfl ?_ | refine WL.skip _ rfl rfl rfl ?_
        first | refine WL.bin rfl rfl rfl rfl (int_gt_t ‹_› _ _ _) ?_ | refine WL.bin rfl rfl rfl rfl (int_gt_f ‹_› _ _ _) ?_ | refine WL.skip _ rfl rfl rfl ?_
        first | refine WL.pick rfl rfl rfl rfl ?_
        refine WL.done ?_
        refine EW.on ?_
        refine EW.cond_f rfl ?_
        refine EW.exit ?_
        repeat refine px_then ?_
        refine px_block ?_
        refine EW.on ?_
        refine EW.seq ?_
        obtain ⟨L, M, D, C, hLp, hMp, hduo0, hcase⟩ := hs
        obtain ⟨hdn, him, hpn⟩ : D.down = C.down ∧ D.img = C.img ∧ D.pen = C.pen := by
          rcases hcase with ⟨_, h, _⟩ | ⟨_, h1, h2, h3, h4, h5⟩
          · subst h; exact ⟨rfl, rfl, rfl⟩
          · exact ⟨by rw [h4, h5], h1, by rw [h2, h3]⟩
        have bd : Below wr.heap.size wr { wr with drawn := wr.drawn + 1 } := below_drawn wr
        have hduo := hduo0.below bd
        obtain ⟨wd, hwd⟩ : ∃ wd, { wr with drawn := wr.drawn + 1 } = wd := ⟨_, rfl⟩
        rw [hwd] at hduo
        clear bd
        have hda := down_any hduo.d.dev
        have hdb := down_any hduo.c.dev
        rw [hLp, hdn] at hda
        rw [hMp] at hdb
        have ima := image_any hduo.d.dev
        rw [hLp, him] at ima
        have b1 : Blk (wd.alloc (.cells (C.img.map byt).toArray 5)) wd.heap.size (C.img.map byt) 5 := Blk.new _ _ _
        have be1 : Below wd.heap.size wd (wd.alloc (.cells (C.img.map byt).toArray 5)) := below_new _ _
        have hduo1 := hduo.below be1
        obtain ⟨w1, hw1⟩ : ∃ w1, wd.alloc (.cells (C.img.map byt).toArray 5) = w1 := ⟨_, rfl⟩
        rw [hw1] at b1 be1 hduo1 ima
        have imb := image_any hduo1.c.dev
        rw [hMp] at imb
        have b2 : Blk (w1.alloc (.cells (C.img.map byt).toArray 5)) w1.heap.size (C.img.map byt) 5 := Blk.new _ _ _
        have be2 : Below w1.heap.size w1 (w1.alloc (.cells (C.img.map byt).toArray 5)) := below_new _ _
        have hduo2 := hduo1.below be2
        obtain ⟨w2, hw2⟩ : ∃ w2, w1.alloc (.cells (C.img.map byt).toArray 5) = w2 := ⟨_, rfl⟩
        rw [hw2] at b2 be2 hduo2 imb
        have ca := cache_any hduo2.d.dev
        rw [hLp, hpn] at ca
        have cvt : ∀ (g : Nat) (W : World), Blk W g (C.img.map byt) 5 → (Go.convert 34 9 (.slice (some ⟨g, 0, none⟩) C.img.length C.img.length)).run Try.prog W = .ok (.string ⟨C.img.toArray⟩) W := fun g W h => Has.convert (.inr ⟨⟨g, 0, none⟩, C.img.length, rfl, Nat.le_refl _, fun i u hu => by rw [add_plain, h.cell, List.getElem?_map, hu]; rfl⟩)
        refine EW.ord [(0, false), (2, false), (1, true), (3, true), (4, false), (5, false), (6, false), (9, false), (7, true), (8, false), (10, true), (11, false), (12, false), (13, false), (14, false), (15, false), (17, false), (16, true), (18, true), (19, true), (20, false), (21, false)] (fun _ => True) (by kernel_rfl) rfl (by kernel_rfl) trivial ?_
        rw [hwd]
        simp only [ordOps, List.getD_cons_zero, List.getD_cons_succ]
        refine OE.move rfl rfl rfl ?_
        refine OE.move rfl rfl rfl ?_
        refine OE.call [.pointer (some ⟨p, 0, none⟩)] (.bool C.down) (fun _ => True) (fun W => W = wd) enter22 rfl rfl rfl (fun _ _ => trivial) (fun _ _ => trivial) (fun W hW => by rw [hW]; exact hda) ?_
        refine OE.call [.pointer (some ⟨q, 0, none⟩)] (.bool C.down) (fun _ => True) (fun W => W = wd) enter22 rfl rfl rfl (fun _ _ => trivial) (fun _ _ => trivial) (fun W hW => by rw [hW]; exact hdb) ?_
        refine OE.bin rfl rfl rfl rfl (fun W => bool_eq_t _ W _ _) ?_
        refine OE.move rfl rfl rfl ?_
        refine OE.move rfl rfl rfl ?_
        refine OE.move rfl rfl rfl ?_
        refine OE.call [.pointer (some ⟨p, 0, none⟩)] (.slice (some ⟨wd.heap.size, 0, none⟩) C.img.length C.img.length) (fun W => Below w1.heap.size w1 W) (fun W => W = w1) enter16 rfl rfl rfl (fun W hW => by rw [hW]; exact Below.refl _ _) (fun _ _ => trivial) (fun W hW => by rw [hW]; exact ima) ?_
        refine OE.conv rfl rfl rfl (fun W hW => cvt _ W (b1.on hW)) ?_
        refine OE.call [.pointer (some ⟨q, 0, none⟩)] (.slice (some ⟨w1.heap.size, 0, none⟩) C.img.length C.img.length) (fun W => Below w2.heap.size w2 W) (fun W => W = w2) enter16 rfl rfl rfl (fun W hW => by rw [hW]; exact Below.refl _ _) (fun W hW => be2.trans (hW.mono be2.size)) (fun W hW => by rw [hW]; exact imb) ?_
        refine OE.conv rfl rfl rfl (fun W hW => cvt _ W (b2.on hW)) ?_
        refine OE.bin rfl rfl rfl rfl (fun W => str_eq_t _ W _ _) ?_
        refine OE.pick rfl rfl rfl rfl ?_
        refine OE.move rfl rfl rfl ?_
        refine OE.move rfl rfl rfl ?_
        refine OE.move rfl rfl rfl ?_
        refine OE.call [.pointer (some ⟨p, 0, none⟩)] (.slice (some ⟨w2.heap.size, 0, none⟩) C.pen.length C.pen.length) (fun W => Below w2.heap.size w2 W) (fun W => Below w2.heap.size w2 W ∧ W.heap.size = w2.heap.size + 1 + 2 * C.pen.length ∧ ∃ gs, Pen W w2.heap.size gs C.pen) enter24 rfl rfl rfl (fun W hW => hW.1) (fun _ h => h) (fun W hW => by rw [hW]; exact ca) ?_
        refine OE.call [.pointer (some ⟨q, 0, none⟩)] (.slice (some ⟨w2.heap.size + 1 + 2 * C.pen.length, 0, none⟩) C.pen.length C.pen.length) (fun W => Below w2.heap.size w2 W) (fun W => Below w2.heap.size w2 W ∧ (∃ gs, Pen W w2.heap.size gs C.pen) ∧ ∃ gs, Pen W (w2.heap.size + 1 + 2 * C.pen.length) gs C.pen) enter24 rfl rfl rfl (fun W hW => hW.1) (fun _ h => h) (fun W hW => by
          obtain ⟨h1, h2, gs, h3⟩ := hW
          have hc := cache_any (hduo2.below h1).c.dev
          rw [hMp, h2] at hc
          exact hc.mono fun x W' ⟨e1, e2, e3, gs', e4⟩ => ⟨e1, h1.trans (e2.mono (by rw [← h2]; exact h1.size)), ⟨gs, h3.below (by rw [h2]; exact e2)⟩, gs', e4⟩) ?_
        refine OE.call [.slice (some ⟨w2.heap.size, 0, none⟩) C.pen.length C.pen.length, .slice (some ⟨w2.heap.size + 1 + 2 * C.pen.length, 0, none⟩) C.pen.length C.pen.length] (.bool true) (fun W => Below w2.heap.size w2 W) (fun W => Below w2.heap.size w2 W) enter23 rfl rfl rfl (fun W hW => hW) (fun _ h => h) (fun W hW => by
          obtain ⟨h1, ⟨gs, h2⟩, gs', h3⟩ := hW
          exact (same_yes _ _ gs gs' C.pen hduo2.c.dev.ok.few (fun x hx => (hduo2.c.dev.ok.sec x hx).2) W h2 h3).mono fun x W' ⟨e1, e2⟩ => ⟨e1, h1.trans (e2.mono h1.size)⟩) ?_
        refine OE.pick rfl rfl rfl rfl ?_
        refine OE.assign rfl rfl rfl ?_
        refine fun a ha W hW => EW.on (EW.ret (EW.returns Try.results5 rfl ⟨rfl, ?_⟩)) a ha
        exact BE0.out.trans ((hduo2.d.be.trans (hW.mono hduo2.d.be.size)).mono BE0.out.size)
    · have z1 : ¬ (t : Int) < (n : Int) := fun h => hl1 (Int.ofNat_lt.1 h)
      refine EW.seq ?_
      refine EW.seq ?_
      refine EW.region ?_
      first | refine WL.move rfl rfl rfl ?_
      first | refine WL.move rfl rfl rfl ?_
      refine WL.len rfl rfl rfl (hlen _ _) ?_
      first | refine WL.bin rfl rfl rfl rfl (int_lt_t ‹_› _ _ _) ?_ | refine WL.bin rfl rfl rfl rfl (int_lt_f ‹_› _ _ _) ?_
      first | refine WL.move rfl rfl rfl ?_
      first | refine WL.move rfl rfl rfl ?_ | refine WL.skip _ rfl rfl rfl ?_
      first | refine WL.bin rfl rfl rfl rfl (int_lt_t ‹_› _ _ _) ?_ | refine WL.bin rfl rfl rfl rfl (int_lt_f ‹_› _ _ _) ?_ | refine WL.skip _ rfl rfl rfl ?_
      first | refine WL.pick rfl rfl rfl rfl ?_
      first | refine WL.move rfl rfl rfl ?_
      first | refine WL.move rfl rfl rfl ?_ | refine WL.skip _ rfl rfl rfl ?_
      first | refine WL.bin rfl rfl rfl rfl (int_gt_t ‹_› _ _ _) ?_ | refine WL.bin rfl rfl rfl rfl (int_gt_f ‹_› _ _ _) ?_ | refine WL.skip _ rfl rfl rfl ?_
      first | refine WL.pick rfl rfl rfl rfl ?_
      refine WL.done ?_
      refine EW.on ?_
      refine EW.cond_f rfl ?_
      refine EW.exit ?_
      repeat refine px_then ?_
      refine px_block ?_
      refine EW.on ?_
      refine EW.seq ?_
      obtain ⟨L, M, D, C, hLp, hMp, hduo0, hcase⟩ := hs
      obtain ⟨hdn, him, hpn⟩ : D.down = C.down ∧ D.img = C.img ∧ D.pen = C.pen := by
        rcases hcase with ⟨_, h, _⟩ | ⟨_, h1, h2, h3, h4, h5⟩
        · subst h; exact ⟨rfl, rfl, rfl⟩
        · exact ⟨by rw [h4, h5], h1, by rw [h2, h3]⟩
      have bd : Below wr.heap.size wr { wr with drawn := wr.drawn + 1 } := below_drawn wr
      have hduo := hduo0.below bd
      obtain ⟨wd, hwd⟩ : ∃ wd, { wr with drawn := wr.drawn + 1 } = wd := ⟨_, rfl⟩
      rw [hwd] at hduo
      clear bd
      have hda := down_any hduo.d.dev
      have hdb := down_any hduo.c.dev
      rw [hLp, hdn] at hda
      rw [hMp] at hdb
      have ima := image_any hduo.d.dev
      rw [hLp, him] at ima
      have b1 : Blk (wd.alloc (.cells (C.img.map byt).toArray 5)) wd.heap.size (C.img.map byt) 5 := Blk.new _ _ _
      have be1 : Below wd.heap.size wd (wd.alloc (.cells (C.img.map byt).toArray 5)) := below_new _ _
      have hduo1 := hduo.below be1
      obtain ⟨w1, hw1⟩ : ∃ w1, wd.alloc (.cells (C.img.map byt).toArray 5) = w1 := ⟨_, rfl⟩
      rw [hw1] at b1 be1 hduo1 ima
      have imb := image_any hduo1.c.dev
      rw [hMp] at imb
      have b2 : Blk (w1.alloc (.cells (C.img.map byt).toArray 5)) w1.heap.size (C.img.map byt) 5 := Blk.new _ _ _
      have be2 : Below w1.heap.size w1 (w1.alloc (.cells (C.img.map byt).toArray 5)) := below_new _ _
      have hduo2 := hduo1.below be2
      obtain ⟨w2, hw2⟩ : ∃ w2, w1.alloc (.cells (C.img.map byt).toArray 5) = w2 := ⟨_, rfl⟩
      rw [hw2] at b2 be2 hduo2 imb
      have ca := cache_any hduo2.d.dev
      rw [hLp, hpn] at ca
      have cvt : ∀ (g : Nat) (W : World), Blk W g (C.img.map byt) 5 → (Go.convert 34 9 (.slice (some ⟨g, 0, none⟩) C.img.length C.img.length)).run Try.prog W = .ok (.string ⟨C.img.toArray⟩) W := fun g W h => Has.convert (.inr ⟨⟨g, 0, none⟩, C.img.length, rfl, Nat.le_refl _, fun i u hu => by rw [add_plain, h.cell, List.getElem?_map, hu]; rfl⟩)
      refine EW.ord [(0, false), (2, false), (1, true), (3, true), (4, false), (5, false), (6, false), (9, false), (7, true), (8, false), (10, true), (11, false), (12, false), (13, false), (14, false), (15, false), (17, false), (16, true), (18, true), (19, true), (20, false), (21, false)] (fun _ => True) (by kernel_rfl) rfl (by kernel_rfl) trivial ?_
      rw [hwd]
      simp only [ordOps, List.getD_cons_zero, List.getD_cons_succ]
      refine OE.move rfl rfl rfl ?_
      refine OE.move rfl rfl rfl ?_
      refine OE.call [.pointer (some ⟨p, 0, none⟩)] (.bool C.down) (fun _ => True) (fun W => W = wd) enter22 rfl rfl rfl (fun _ _ => trivial) (fun _ _ => trivial) (fun W hW => by rw [hW]; exact hda) ?_
      refine OE.call [.pointer (some ⟨q, 0, none⟩)] (.bool C.down) (fun _ => True) (fun W => W = wd) enter22 rfl rfl rfl (fun _ _ => trivial) (fun _ _ => trivial) (fun W hW => by rw [hW]; exact hdb) ?_
      refine OE.bin rfl rfl rfl rfl (fun W => bool_eq_t _ W _ _) ?_
      refine OE.move rfl rfl rfl ?_
      refine OE.move rfl rfl rfl ?_
      refine OE.move rfl rfl rfl ?_
      refine OE.call [.pointer (some ⟨p, 0, none⟩)] (.slice (some ⟨wd.heap.size, 0, none⟩) C.img.length C.img.length) (fun W => Below w1.heap.size w1 W) (fun W => W = w1) enter16 rfl rfl rfl (fun W hW => by rw [hW]; exact Below.refl _ _) (fun _ _ => trivial) (fun W hW => by rw [hW]; exact ima) ?_
      refine OE.conv rfl rfl rfl (fun W hW => cvt _ W (b1.on hW)) ?_
      refine OE.call [.pointer (some ⟨q, 0, none⟩)] (.slice (some ⟨w1.heap.size, 0, none⟩) C.img.length C.img.length) (fun W => Below w2.heap.size w2 W) (fun W => W = w2) enter16 rfl rfl rfl (fun W hW => by rw [hW]; exact Below.refl _ _) (fun W hW => be2.trans (hW.mono be2.size)) (fun W hW => by rw [hW]; exact imb) ?_
      refine OE.conv rfl rfl rfl (fun W hW => cvt _ W (b2.on hW)) ?_
      refine OE.bin rfl rfl rfl rfl (fun W => str_eq_t _ W _ _) ?_
      refine OE.pick rfl rfl rfl rfl ?_
      refine OE.move rfl rfl rfl ?_
      refine OE.move rfl rfl rfl ?_
      refine OE.move rfl rfl rfl ?_
      refine OE.call [.pointer (some ⟨p, 0, none⟩)] (.slice (some ⟨w2.heap.size, 0, none⟩) C.pen.length C.pen.length) (fun W => Below w2.heap.size w2 W) (fun W => Below w2.heap.size w2 W ∧ W.heap.size = w2.heap.size + 1 + 2 * C.pen.length ∧ ∃ gs, Pen W w2.heap.size gs C.pen) enter24 rfl rfl rfl (fun W hW => hW.1) (fun _ h => h) (fun W hW => by rw [hW]; exact ca) ?_
      refine OE.call [.pointer (some ⟨q, 0, none⟩)] (.slice (some ⟨w2.heap.size + 1 + 2 * C.pen.length, 0, none⟩) C.pen.length C.pen.length) (fun W => Below w2.heap.size w2 W) (fun W => Below w2.heap.size w2 W ∧ (∃ gs, Pen W w2.heap.size gs C.pen) ∧ ∃ gs, Pen W (w2.heap.size + 1 + 2 * C.pen.length) gs C.pen) enter24 rfl rfl rfl (fun W hW => hW.1) (fun _ h => h) (fun W hW => by
        obtain ⟨h1, h2, gs, h3⟩ := hW
        have hc := cache_any (hduo2.below h1).c.dev
        rw [hMp, h2] at hc
        exact hc.mono fun x W' ⟨e1, e2, e3, gs', e4⟩ => ⟨e1, h1.trans (e2.mono (by rw [← h2]; exact h1.size)), ⟨gs, h3.below (by rw [h2]; exact e2)⟩, gs', e4⟩) ?_
      refine OE.call [.slice (some ⟨w2.heap.size, 0, none⟩) C.pen.length C.pen.length, .slice (some ⟨w2.heap.size + 1 + 2 * C.pen.length, 0, none⟩) C.pen.length C.pen.length] (.bool true) (fun W => Below w2.heap.size w2 W) (fun W => Below w2.heap.size w2 W) enter23 rfl rfl rfl (fun W hW => hW) (fun _ h => h) (fun W hW => by
        obtain ⟨h1, ⟨gs, h2⟩, gs', h3⟩ := hW
        exact (same_yes _ _ gs gs' C.pen hduo2.c.dev.ok.few (fun x hx => (hduo2.c.dev.ok.sec x hx).2) W h2 h3).mono fun x W' ⟨e1, e2⟩ => ⟨e1, h1.trans (e2.mono h1.size)⟩) ?_
      refine OE.pick rfl rfl rfl rfl ?_
      refine OE.assign rfl rfl rfl ?_
      refine fun a ha W hW => EW.on (EW.ret (EW.returns Try.results5 rfl ⟨rfl, ?_⟩)) a ha
      exact BE0.out.trans ((hduo2.d.be.trans (hW.mono hduo2.d.be.size)).mono BE0.out.size)
end Go.Proofs.Ythfcabhelldokaa
