import Derived.Test.YteghbkeaojbdgaaQk
import Derived.Test.YteghbkeaojbdgaaPr
set_option linter.unusedVariables false
set_option linter.unusedSimpArgs false
namespace Go.Proofs.Yteghbkeaojbdgaa
open Go.RowKit

theorem WL.slice2 {P : Program} {n : Nat} {ops : Array Oper} {Q : Exit → Act → World → Prop} {i : Nat} {ty : TypeId} {ps : String} {af : Array Edge} {gd : Option (Nat × Bool)} {r : List Oper} {e : List (Nat × Value)} {w : World} {t : TypeId} {x lo up : Operand} {u ul uh v : Value} (hw : wantE ops e ⟨some i, .slice t x (some lo) (some up) none, ty, ps, af, gd⟩ = some true) (hi : decide (i < n) = true) (hx : evE e x = some u) (hl : evE e lo = some ul) (hh : evE e up = some uh) (hr : (Instr.sliceAt t u (some ul) (some uh) none).run P w = .ok v w) (k : WL P n ops Q r ((i, v) :: e) w) : WL P n ops Q (⟨some i, .slice t x (some lo) (some up) none, ty, ps, af, gd⟩ :: r) e w :=
  WL.op i v hw rfl hi (fun a ha => by simp [execOp, ha.ev hx, ha.ev hl, ha.ev hh, hr, Result.andThen]) k
theorem pz_back {c r : List UInt8} {ds : List Rc} (hs : Srt ds) (hc : c = ds.flatMap encD ++ r) : ∀ k, k ≤ ds.length → Pz c (ds.take k) ((ds.take k).flatMap encD).length
  | 0, _ => by simp; exact Pz.nil
  | k + 1, hk => by
    have ih := pz_back hs hc k (by omega)
    obtain ⟨d, hd⟩ : ∃ d, ds[k]? = some d := ⟨_, List.getElem?_eq_getElem (by omega)⟩
    have hok := hs.ok d (List.mem_of_getElem? hd)
    have htk : ds.take (k + 1) = ds.take k ++ [d] := by rw [List.take_add_one, hd]; rfl
    have hdr : c.drop ((ds.take k).flatMap encD).length = encD d ++ ((ds.drop (k + 1)).flatMap encD ++ r) := by
      have e : ds.flatMap encD = (ds.take k).flatMap encD ++ (encD d ++ (ds.drop (k + 1)).flatMap encD) := by
        rw [← List.flatMap_cons, ← List.flatMap_append]
        congr 1
        have h1 : k < ds.length := by omega
        rw [List.getElem?_eq_getElem h1] at hd
        rw [← Option.some.inj hd, ← List.drop_eq_getElem_cons h1, List.take_append_drop]
      rw [hc, e, List.append_assoc, List.drop_left, List.append_assoc]
    have hr := rec_dec hok hdr
    have hst := Pz.snoc _ _ ih ⟨by rw [hr], by rw [hr]; exact hok⟩ (by
      rw [hr]
      intro a ha
      rw [List.getLast?_eq_getElem?, List.length_take, Nat.min_eq_left (by omega)] at ha
      have h0 : k - 1 < k := by
        rcases Nat.eq_zero_or_pos k with h | h
        · rw [h] at ha; simp at ha
        · omega
      rw [List.getElem?_take_of_lt h0] at ha
      exact hs.lt (k - 1) a d ha (by rw [show k - 1 + 1 = k by omega]; exact hd))
    rw [hr] at hst
    rw [htk, List.flatMap_append, List.flatMap_singleton, List.length_append, enc_len]
    exact hst
theorem orB_rep (n : Nat) : orB (List.replicate n 0) = 0 := (orB_zero _).2 fun b hb => (List.mem_replicate.1 hb).2
theorem decode_back (m : Nat) (v : Value) (ds : List Rc) (w : World) (hb : Has w v (encP ds)) (hs : Srt ds) (hf : fitN 1008 ds = ds.length) (hm : ds.length = m) (h60 : m ≤ 1000) : Calls Try.prog 8 #[.int .i64 (m : Int), v] w fun e w' => ∃ (vl : Value) (rs : List RV), e = .returned (.tuple #[vl, .int .i64 0]) ∧ Ls w' vl rs ∧ rs.map RV.d = ds ∧ Below w.heap.size w w' := by
  have hp := pz_back (c := encP ds) hs rfl ds.length (Nat.le_refl _)
  rw [List.take_length] at hp
  have hz : orB ((encP ds).drop (ds.flatMap encD).length) = 0 := by
    unfold encP
    rw [List.drop_left]
    exact orB_rep _
  refine (decode_1008 m v _ w hb (by omega) (encP_len hf)).mono ?_
  rintro e w' ⟨vl, code, g1, g2, g3⟩
  rcases g3 with ⟨k0, rs, p', k1, k2, k3, k4, _⟩ | ⟨k1, k2, ⟨k3, ds', p', k4, k5, k6⟩ | k3⟩
  · obtain ⟨e1, _⟩ := pz_det k3 hp (by rw [List.length_map]; omega)
    exact ⟨vl, rs, by rw [g1, k0], k1, e1, g2⟩
  · obtain ⟨_, e2⟩ := pz_det k4 hp (by omega)
    rw [e2] at k6
    exact absurd hz k6
  · exact absurd hm (k3 ds _ hp)
theorem fit_take {ds : List Rc} {k : Nat} (h : k = fitN 1008 ds) : fitN 1008 (ds.take k) = k := by
  have hl := fit_le ds 1008
  have hk : (ds.take k).length = k := by rw [List.length_take]; omega
  have := fit_drop (ds.take k) 1008 k (fun i hi => by
    rw [List.take_take, Nat.min_eq_left hi]
    exact fit_left ds 1008 i (by decide) (by omega)) (by omega)
  rw [List.drop_eq_nil_of_le (by omega)] at this
  exact this
theorem Srt.part {ds : List Rc} (h : Srt ds) (a n : Nat) : Srt ((ds.drop a).take n) := by
  refine ⟨fun d hd => h.ok d (List.mem_of_mem_drop (List.mem_of_mem_take hd)), fun i x y hx hy => ?_⟩
  rw [List.getElem?_take] at hx hy
  split at hx
  · split at hy
    · rw [List.getElem?_drop] at hx hy
      exact h.lt (a + i) x y hx (by rw [show a + i + 1 = a + (i + 1) by omega]; exact hy)
    · cases hy
  · cases hx
theorem map_part (rs : List RV) (a n : Nat) : ((rs.drop a).take n).map RV.d = ((rs.map RV.d).drop a).take n := by rw [List.map_take, List.map_drop]
def baE (v : Value) (x : Nat × Value × List RV) : List (Nat × Value) := [(0, v), (3, x.2.1), (4, .int .i64 (x.1 : Int))]
def BaR (w : World) (ls : List RV) (x : Nat × Value × List RV) (W : World) : Prop := Below w.heap.size w W ∧ x.1 ≤ ls.length ∧ x.1 ≤ 60 ∧ Ls W x.2.1 x.2.2 ∧ x.2.2.map RV.d = sortD ((ls.map RV.d).take x.1)
def bbE (vl vw vc : Value) (x : Nat × Nat) : List (Nat × Value) := [(3, vl), (7, vw), (8, vc), (10, .int .i64 (x.2 : Int)), (11, .int .i64 (x.1 : Int))]
theorem d_len' {xs : List RV} {ds : List Rc} (h : xs.map RV.d = ds) : xs.length = ds.length := by rw [← h, List.length_map]
set_option maxRecDepth 100000 in
set_option maxHeartbeats 8000000 in
theorem back_any (v : Value) (ls : List RV) (w : World) (hL : Ls w v ls) : Calls Try.prog 6 #[v] w fun e w' => e = .returned (.bool true) ∧ Below w.heap.size w w' := by
  refine calls_of_args [v] Try.func6 rfl 129 Try.ntmps6 (by show 1 ≤ 129; decide) ?_
  refine EW.seq ?_
  refine EW.region ?_
  first | refine WL.assign rfl rfl rfl ?_
  refine WL.done ?_
  refine EW.on ?_
  refine EW.seq ?_
  refine EW.region ?_
  first | refine WL.assign rfl rfl rfl ?_
  refine WL.done ?_
  refine EW.on ?_
  refine EW.seq ?_
  refine EW.seq ?_
  refine EW.region ?_
  first | refine WL.assign rfl rfl rfl ?_
  refine WL.done ?_
  refine EW.on ?_
  refine EW.block ?_
  refine EW.loop (baE v) (BaR w ls) (fun x => 60 - x.1) (0, .slice none 0 0, []) [0, 3, 4] rfl ⟨Below.refl _ _, Nat.zero_le _, Nat.zero_le _, Ls.nil _, rfl⟩ ?_
  rintro ⟨t, vl, rs⟩ wi ⟨bei0, htl, ht60, hli, hdi⟩
  dsimp only at htl ht60 hli hdi
  have hsi : Srt (rs.map RV.d) := by rw [hdi]; exact sortD_srt _
  have hrl : rs.length ≤ 60 := by
    have e1 := congrArg List.length hdi
    have e2 := sortD_len ((ls.map RV.d).take t)
    rw [List.length_map] at e1
    rw [List.length_take] at e2
    omega
  show EW _ _ _ _ [(0, v), (3, vl), (4, .int .i64 (t : Int))] _
  refine EW.seq ?_
  refine EW.seq ?_
  rcases (show (t < ls.length ∧ t < 60) ∨ (t < ls.length ∧ ¬ t < 60) ∨ ¬ t < ls.length by omega) with hcase | hcase | hcase
  · have z1 : (t : Int) < (ls.length : Int) := by omega
    have z2 : (t : Int) < 60 := by omega
    have tn : IntKind.i64.wrap ((t : Int) + 1) = ((t + 1 : Nat) : Int) := by rw [IntKind.wrap_i64]; omega
    obtain ⟨z, hz⟩ : ∃ z, ls[t]? = some z := ⟨_, List.getElem?_eq_getElem (by omega)⟩
    obtain ⟨adz, iz, az⟩ := (hL.below bei0).item hz
    have okz := (hL.below bei0).ok z (List.mem_of_getElem? hz)
    refine EW.region ?_
    first | refine WL.move rfl rfl rfl ?_
    first | refine WL.move rfl rfl rfl ?_
    refine WL.len rfl rfl rfl (hL.len _ _) ?_
    first | refine WL.bin rfl rfl rfl rfl (int_lt_t z1 _ _ _) ?_
    first | refine WL.move rfl rfl rfl ?_
    first | refine WL.move rfl rfl rfl ?_ | refine WL.skip _ rfl rfl rfl ?_
    first | refine WL.bin rfl rfl rfl rfl (int_lt_t z2 _ _ _) ?_ | refine WL.skip _ rfl rfl rfl ?_
    first | refine WL.pick rfl rfl rfl rfl ?_
    refine WL.done ?_
    refine EW.on ?_
    refine EW.cond_t rfl ?_
    refine EW.skip ?_
    refine EW.on ?_
    refine EW.seq ?_
    refine EW.block ?_
    refine EW.seq ?_
    refine EW.region ?_
    first | refine WL.move rfl rfl rfl ?_
    first | refine WL.move rfl rfl rfl ?_
    first | refine WL.move rfl rfl rfl ?_
    refine WL.index rfl rfl rfl rfl (iz _) ?_
    refine WL.load rfl rfl rfl (ldA az) ?_
    refine WL.call [z.val] enter12 rfl rfl rfl (right_mk z _ okz) ?_
    rintro _ wa ⟨a1, b1, rfl, okx, bea⟩
    refine ⟨_, rfl, ?_⟩
    refine WL.call [vl, (mkR (rightD z.d) a1 b1).val] enter15 rfl rfl rfl (put_any vl rs (mkR (rightD z.d) a1 b1) _ (hli.below bea) okx (right_ok _) (by omega) hsi) ?_
    rintro _ wb ⟨vb, rs', rfl, hlb, hdb, beb⟩
    refine ⟨_, rfl, ?_⟩
    first | refine WL.move rfl rfl rfl ?_
    first | refine WL.extract rfl rfl rfl (ext_2 _ _ _).1 ?_
    first | refine WL.extract rfl rfl rfl (ext_2 _ _ _).2 ?_
    first | refine WL.assign rfl rfl rfl ?_
    first | refine WL.assign rfl rfl rfl ?_
    refine WL.done ?_
    refine EW.on ?_
    refine EW.seq ?_
    refine EW.seq ?_
    refine EW.region ?_
    first | refine WL.move rfl rfl rfl ?_
    first | refine WL.bin rfl rfl rfl rfl (int_ne_f rfl _ _ _) ?_
    refine WL.done ?_
    refine EW.on ?_
    refine EW.cond_f rfl ?_
    refine EW.skip ?_
    refine EW.on ?_
    refine EW.region ?_
    first | refine WL.move rfl rfl rfl ?_
    first | refine WL.assign rfl rfl rfl ?_
    refine WL.done ?_
    refine pn_block ?_
    refine EW.on ?_
    refine EW.region ?_
    first | refine WL.move rfl rfl rfl ?_
    first | refine WL.bin rfl rfl rfl rfl (int_add tn _ _ _) ?_
    first | refine WL.assign rfl rfl rfl ?_
    refine WL.done ?_
    have bab := bea.trans (beb.mono bea.size)
    refine EW.again (E := baE v) (R := BaR w ls) (m := fun x => 60 - x.1) (x := (t, vl, rs)) (t + 1, vb, rs') [0, 3, 4] rfl ⟨bei0.trans (bab.mono bei0.size), by show t + 1 ≤ _; omega, by show t + 1 ≤ 60; omega, hlb, ?_⟩ (by show 60 - (t + 1) < 60 - t; omega)
    show rs'.map RV.d = sortD ((ls.map RV.d).take (t + 1))
    rw [hdb, hdi, List.take_add_one, d_at hz, show (some z.d).toList = [z.d] from rfl, sortD_snoc]
    rfl
  · have z1 : (t : Int) < (ls.length : Int) := by omega
    have z2 : ¬ (t : Int) < 60 := by omega
    have hend : t = min 60 ls.length := by omega
    refine EW.region ?_
    first | refine WL.move rfl rfl rfl ?_
    first | refine WL.move rfl rfl rfl ?_
    refine WL.len rfl rfl rfl (hL.len _ _) ?_
    first | refine WL.bin rfl rfl rfl rfl (int_lt_t z1 _ _ _) ?_
    first | refine WL.move rfl rfl rfl ?_
    first | refine WL.move rfl rfl rfl ?_ | refine WL.skip _ rfl rfl rfl ?_
    first | refine WL.bin rfl rfl rfl rfl (int_lt_f z2 _ _ _) ?_ | refine WL.skip _ rfl rfl rfl ?_
    first | refine WL.pick rfl rfl rfl rfl ?_
    refine WL.done ?_
    refine EW.on ?_
    refine EW.cond_f rfl ?_
    refine EW.exit ?_
    refine px_then ?_
    refine px_then ?_
    refine px_block ?_
    refine EW.on ?_
    refine EW.seq ?_
    refine EW.region ?_
    first | refine WL.move rfl rfl rfl ?_
    refine WL.call [v] enter11 rfl rfl rfl (sorted_any v ls _ (hL.below bei0)) ?_
    rintro _ w3 ⟨vw, ws, rfl, hw3, hws, _, be3⟩
    refine ⟨_, rfl, ?_⟩
    first | refine WL.assign rfl rfl rfl ?_
    refine WL.done ?_
    refine EW.on ?_
    refine EW.seq ?_
    refine EW.region ?_
    first | refine WL.move rfl rfl rfl ?_
    refine WL.call [vl] enter18 rfl rfl rfl (pack_any vl rs _ (hli.below be3) hsi (by omega)) ?_
    rintro _ w4 ⟨vc, cs, rfl, hc, hpk, be4⟩
    refine ⟨_, rfl, ?_⟩
    first | refine WL.move rfl rfl rfl ?_
    first | refine WL.extract rfl rfl rfl (ext_2 _ _ _).1 ?_
    first | refine WL.extract rfl rfl rfl (ext_2 _ _ _).2 ?_
    first | refine WL.assign rfl rfl rfl ?_
    first | refine WL.assign rfl rfl rfl ?_
    refine WL.done ?_
    refine EW.on ?_
    refine EW.seq ?_
    refine EW.seq ?_
    have hdd : rs.map RV.d = ws.map RV.d := by rw [hdi, hws, hend]
    have hwl : ws.length = rs.length := (d_len hdd).symm
    have hbb : decide ((0 : Int) < (cs.length : Int)) = decide ((0 : Int) < (ws.length : Int)) := by
      have h1 := pk_len hpk hsi.ok
      rw [List.length_map] at h1
      apply decide_eq_decide.2
      constructor
      · intro h; omega
      · intro h
        rcases Nat.eq_zero_or_pos cs.length with h0 | h0
        · rw [List.length_eq_zero_iff.1 h0] at hpk
          have := congrArg List.length (pk_nil hpk)
          simp at this
          rw [this] at hwl
          simp at hwl
          rw [hwl] at h
          simp at h
        · omega
    refine EW.region ?_
    first | refine WL.move rfl rfl rfl ?_
    first | refine WL.bin rfl rfl rfl rfl (int_ne_f rfl _ _ _) ?_
    first | refine WL.move rfl rfl rfl ?_
    first | refine WL.move rfl rfl rfl ?_ | refine WL.skip _ rfl rfl rfl ?_
    first | refine WL.move rfl rfl rfl ?_ | refine WL.skip _ rfl rfl rfl ?_
    refine WL.call [vl, vw] enter20 rfl rfl rfl (same_any vl vw rs ws _ ((hli.below be3).below be4) (hw3.below be4) hdd (by omega)) ?_
    rintro _ w5 ⟨rfl, be5⟩
    refine ⟨_, rfl, ?_⟩
    first | refine WL.un rfl rfl rfl (not_t _ _) ?_ | refine WL.skip _ rfl rfl rfl ?_
    first | refine WL.pick rfl rfl rfl rfl ?_
    first | refine WL.move rfl rfl rfl ?_
    first | refine WL.move rfl rfl rfl ?_ | refine WL.skip _ rfl rfl rfl ?_
    refine WL.len rfl rfl rfl (hc.len _ _) ?_
    refine WL.bin rfl rfl rfl rfl (int_gt_d _ _ _ _ _) ?_
    first | refine WL.move rfl rfl rfl ?_ | refine WL.skip _ rfl rfl rfl ?_
    refine WL.len rfl rfl rfl (hw3.len _ _) ?_
    refine WL.bin rfl rfl rfl rfl (int_gt_d _ _ _ _ _) ?_
    refine WL.bin rfl rfl rfl rfl (bool_ne_f hbb _ _ _) ?_
    first | refine WL.pick rfl rfl rfl rfl ?_
    refine WL.done ?_
    refine EW.on ?_
    refine EW.cond_f rfl ?_
    refine EW.skip ?_
    refine EW.on ?_
    refine EW.seq ?_
    have hcl := pk_len hpk hsi.ok
    rw [List.length_map] at hcl
    have E3 := bei0.trans (be3.mono bei0.size)
    have E4 := E3.trans (be4.mono E3.size)
    have E5 := E4.trans (be5.mono E4.size)
    have hl5 := ((hli.below be3).below be4).below be5
    have hw5 := (hw3.below be4).below be5
    have hc5 := hc.below be5
    refine EW.region ?_
    first | refine WL.assign rfl rfl rfl ?_
    refine WL.done ?_
    refine EW.on ?_
    refine EW.seq ?_
    refine EW.seq ?_
    refine EW.region ?_
    first | refine WL.assign rfl rfl rfl ?_
    refine WL.done ?_
    refine EW.on ?_
    refine EW.block ?_
    refine EW.loop (bbE vl vw vc) (LoR w5 (rs.map RV.d) cs) (fun x => cs.length - x.1) (0, 0) [3, 7, 8, 10, 11] rfl ⟨Below.refl _ _, Nat.zero_le _, Nat.zero_le _, hpk⟩ ?_
    rintro ⟨i, a_⟩ wj ⟨bei, hil, hal, hpi⟩
    dsimp only at hil hal hpi
    rw [List.length_map] at hal
    have hlI := hl5.below bei
    have hwI := hw5.below bei
    show EW _ _ _ _ [(3, vl), (7, vw), (8, vc), (10, .int .i64 (a_ : Int)), (11, .int .i64 (i : Int))] _
    refine EW.seq ?_
    refine EW.seq ?_
    refine EW.region ?_
    first | refine WL.move rfl rfl rfl ?_
    first | refine WL.move rfl rfl rfl ?_
    refine WL.len rfl rfl rfl (hc.len _ _) ?_
    first | refine WL.bin rfl rfl rfl rfl (int_lt_t ‹_› _ _ _) ?_ | refine WL.bin rfl rfl rfl rfl (int_lt_f ‹_› _ _ _) ?_ | refine WL.bin rfl rfl rfl rfl (int_lt_d _ _ _ _ _) ?_
    refine WL.done ?_
    refine EW.on ?_
    refine EW.cond_d rfl (fun h67 => ?_) (fun h67 => ?_)
    · refine EW.skip ?_
      refine EW.on ?_
      refine EW.seq ?_
      refine EW.block ?_
      refine EW.seq ?_
      have hi : i < cs.length := by omega
      have inx : IntKind.i64.wrap ((i : Int) + 1) = ((i + 1 : Nat) : Int) := by rw [IntKind.wrap_i64]; omega
      obtain ⟨c, hci⟩ : ∃ c, cs[i]? = some c := ⟨_, List.getElem?_eq_getElem hi⟩
      have hcd : cs.drop i = c :: cs.drop (i + 1) := by
        rw [List.drop_eq_getElem_cons hi]
        rw [List.getElem?_eq_getElem hi] at hci
        rw [Option.some.inj hci]
      rw [hcd] at hpi
      obtain ⟨D, hD⟩ : ∃ D, (rs.map RV.d).drop a_ = D := ⟨_, rfl⟩
      rw [hD] at hpi
      obtain ⟨hne, hcn, hrest⟩ := pk_split hpi
      obtain ⟨n, hfn⟩ : ∃ n, fitN 1008 D = n := ⟨_, rfl⟩
      have hfl := fit_le D 1008
      have hfp := fit_pos hne (fun d hd => hsi.ok d (by rw [← hD] at hd; exact List.mem_of_mem_drop hd))
      have hDl : D.length = rs.length - a_ := by rw [← hD]; simp
      rw [hfn] at hcn hrest hfl hfp
      rw [hcn] at hci
      rw [← hD] at hrest
      obtain ⟨gc, ic, csc, bc, hcc⟩ := hc5.item hci
      have y1 : ¬ (n : Int) < 1 := by omega
      have an : IntKind.i64.wrap ((a_ : Int) + (n : Int)) = ((a_ + n : Nat) : Int) := by rw [IntKind.wrap_i64]; omega
      have y2 : ¬ (ws.length : Int) < ((a_ + n : Nat) : Int) := by omega
      obtain ⟨P, hP⟩ : ∃ P, D.take n = P := ⟨_, rfl⟩
      have hPe : ((rs.drop a_).take (a_ + n - a_)).map RV.d = P := by rw [map_part, hD, show a_ + n - a_ = n by omega, hP]
      have hPl : P.length = n := by rw [← hP, List.length_take]; omega
      have hsP' : Srt P := by rw [← hP, ← hD]; exact hsi.part a_ n
      have hfP' : fitN 1008 P = P.length := by rw [hPl, ← hP]; exact fit_take hfn.symm
      have hsP : Srt (((rs.drop a_).take (a_ + n - a_)).map RV.d) := by rw [hPe]; exact hsP'
      have hfP : fitN 1008 (((rs.drop a_).take (a_ + n - a_)).map RV.d) = ((rs.drop a_).take (a_ + n - a_)).length := by rw [hPe, hfP', hPl, List.length_take, List.length_drop]; omega
      have y3 : ((encP P).length : Int) = 1008 := by rw [encP_len hfP']; rfl
      refine EW.region ?_
      first | refine WL.move rfl rfl rfl ?_
      first | refine WL.move rfl rfl rfl ?_
      refine WL.index rfl rfl rfl rfl (ic _) ?_
      refine WL.load rfl rfl rfl (ldI (bc.on bei) hcc) ?_
      first | refine WL.assign rfl rfl rfl ?_
      refine WL.done ?_
      refine EW.on ?_
      refine EW.seq ?_
      refine EW.seq ?_
      refine EW.region ?_
      first | refine WL.move rfl rfl rfl ?_
      first | refine WL.bin rfl rfl rfl rfl (int_lt_f y1 _ _ _) ?_
      first | refine WL.move rfl rfl rfl ?_
      first | refine WL.move rfl rfl rfl ?_ | refine WL.skip _ rfl rfl rfl ?_
      first | refine WL.move rfl rfl rfl ?_ | refine WL.skip _ rfl rfl rfl ?_
      first | refine WL.bin rfl rfl rfl rfl (int_add an _ _ _) ?_ | refine WL.skip _ rfl rfl rfl ?_
      first | refine WL.move rfl rfl rfl ?_ | refine WL.skip _ rfl rfl rfl ?_
      refine WL.len rfl rfl rfl (hw3.len _ _) ?_
      first | refine WL.bin rfl rfl rfl rfl (int_gt_f y2 _ _ _) ?_ | refine WL.skip _ rfl rfl rfl ?_
      first | refine WL.pick rfl rfl rfl rfl ?_
      refine WL.done ?_
      refine EW.on ?_
      refine EW.cond_f rfl ?_
      refine EW.skip ?_
      refine EW.on ?_
      refine EW.seq ?_
      refine EW.region ?_
      first | refine WL.move rfl rfl rfl ?_
      first | refine WL.move rfl rfl rfl ?_
      first | refine WL.move rfl rfl rfl ?_
      first | refine WL.move rfl rfl rfl ?_
      first | refine WL.bin rfl rfl rfl rfl (int_add an _ _ _) ?_
      refine WL.slice2 rfl rfl rfl rfl rfl (hlI.cutLH a_ (a_ + n) (by omega) (by omega) _) ?_
      refine WL.call [cut3 vl a_ (a_ + n)] enter7 rfl rfl rfl (encode_any _ ((rs.drop a_).take (a_ + n - a_)) _ (hlI.cut a_ (a_ + n) (by omega) (by omega)) hsP (by simp; omega) hfP) ?_
      rintro _ w9 ⟨v9, rfl, g9, be9⟩
      rw [hPe] at g9
      refine ⟨_, rfl, ?_⟩
      first | refine WL.move rfl rfl rfl ?_
      first | refine WL.extract rfl rfl rfl (ext_2 _ _ _).1 ?_
      first | refine WL.extract rfl rfl rfl (ext_2 _ _ _).2 ?_
      first | refine WL.assign rfl rfl rfl ?_
      first | refine WL.assign rfl rfl rfl ?_
      refine WL.done ?_
      refine EW.on ?_
      refine EW.seq ?_
      refine EW.region ?_
      first | refine WL.move rfl rfl rfl ?_
      first | refine WL.move rfl rfl rfl ?_
      refine WL.call [.int .i64 (n : Int), v9] enter8 rfl rfl rfl (decode_back n v9 P _ g9 hsP' hfP' hPl (by omega)) ?_
      rintro _ w10 ⟨v10, bs, rfl, hl10, hd10, be10⟩
      have hwJ := (hwI.below be9).below be10
      refine ⟨_, rfl, ?_⟩
      first | refine WL.move rfl rfl rfl ?_
      first | refine WL.extract rfl rfl rfl (ext_2 _ _ _).1 ?_
      first | refine WL.extract rfl rfl rfl (ext_2 _ _ _).2 ?_
      first | refine WL.assign rfl rfl rfl ?_
      first | refine WL.assign rfl rfl rfl ?_
      refine WL.done ?_
      refine EW.on ?_
      refine EW.seq ?_
      refine EW.seq ?_
      refine EW.region ?_
      first | refine WL.move rfl rfl rfl ?_
      first | refine WL.bin rfl rfl rfl rfl (int_ne_f rfl _ _ _) ?_
      first | refine WL.move rfl rfl rfl ?_
      first | refine WL.move rfl rfl rfl ?_ | refine WL.skip _ rfl rfl rfl ?_
      first | refine WL.bin rfl rfl rfl rfl (int_ne_f rfl _ _ _) ?_ | refine WL.skip _ rfl rfl rfl ?_
      first | refine WL.pick rfl rfl rfl rfl ?_
      first | refine WL.move rfl rfl rfl ?_
      first | refine WL.move rfl rfl rfl ?_ | refine WL.skip _ rfl rfl rfl ?_
      refine WL.len rfl rfl rfl (g9.len _ _) ?_
      first | refine WL.bin rfl rfl rfl rfl (int_ne_f y3 _ _ _) ?_ | refine WL.skip _ rfl rfl rfl ?_
      first | refine WL.pick rfl rfl rfl rfl ?_
      first | refine WL.move rfl rfl rfl ?_
      first | refine WL.move rfl rfl rfl ?_ | refine WL.skip _ rfl rfl rfl ?_
      first | refine WL.move rfl rfl rfl ?_ | refine WL.skip _ rfl rfl rfl ?_
      first | refine WL.move rfl rfl rfl ?_ | refine WL.skip _ rfl rfl rfl ?_
      first | refine WL.move rfl rfl rfl ?_ | refine WL.skip _ rfl rfl rfl ?_
      first | refine WL.move rfl rfl rfl ?_ | refine WL.skip _ rfl rfl rfl ?_
      first | refine WL.bin rfl rfl rfl rfl (int_add an _ _ _) ?_ | refine WL.skip _ rfl rfl rfl ?_
      refine WL.slice2 rfl rfl rfl rfl rfl (hwI.cutLH a_ (a_ + n) (by omega) (by omega) _) ?_
      refine WL.call [v10, cut3 vw a_ (a_ + n)] enter20 rfl rfl rfl (same_any v10 _ bs ((ws.drop a_).take (a_ + n - a_)) _ hl10 (hwJ.cut a_ (a_ + n) (by omega) (by omega)) (by rw [hd10, ← hPe, map_part, map_part, hdd]) (by have := d_len' hd10; omega)) ?_
      rintro _ w11 ⟨rfl, be11⟩
      refine ⟨_, rfl, ?_⟩
      first | refine WL.un rfl rfl rfl (not_t _ _) ?_ | refine WL.skip _ rfl rfl rfl ?_
      first | refine WL.pick rfl rfl rfl rfl ?_
      refine WL.done ?_
      refine EW.on ?_
      refine EW.cond_f rfl ?_
      refine EW.skip ?_
      refine EW.on ?_
      refine EW.region ?_
      first | refine WL.move rfl rfl rfl ?_
      first | refine WL.move rfl rfl rfl ?_
      first | refine WL.bin rfl rfl rfl rfl (int_add an _ _ _) ?_
      first | refine WL.assign rfl rfl rfl ?_
      refine WL.done ?_
      refine pn_block ?_
      refine EW.on ?_
      refine EW.region ?_
      first | refine WL.move rfl rfl rfl ?_
      first | refine WL.bin rfl rfl rfl rfl (int_add inx _ _ _) ?_
      first | refine WL.assign rfl rfl rfl ?_
      refine WL.done ?_
      have b1 := bei.trans (be9.mono bei.size)
      have b2 := b1.trans (be10.mono b1.size)
      refine EW.again (E := bbE vl vw vc) (R := LoR w5 (rs.map RV.d) cs) (m := fun x => cs.length - x.1) (x := (i, a_)) (i + 1, a_ + n) [3, 7, 8, 10, 11] rfl ⟨b2.trans (be11.mono b2.size), by show i + 1 ≤ _; omega, by show a_ + n ≤ _; rw [List.length_map]; omega, ?_⟩ (by show cs.length - (i + 1) < cs.length - i; omega)
      show PkR ((rs.map RV.d).drop (a_ + n)) (cs.drop (i + 1))
      rw [← List.drop_drop]
      exact hrest
    · refine EW.exit ?_
      refine px_then ?_
      refine px_then ?_
      refine px_block ?_
      refine EW.on ?_
      refine EW.seq ?_
      have y4 : (a_ : Int) = (ws.length : Int) := by
        rw [show cs.drop i = [] from List.drop_eq_nil_of_le (by omega)] at hpi
        have := pk_nil hpi
        rw [List.drop_eq_nil_iff, List.length_map] at this
        omega
      refine EW.region ?_
      first | refine WL.move rfl rfl rfl ?_
      first | refine WL.move rfl rfl rfl ?_
      refine WL.len rfl rfl rfl (hw3.len _ _) ?_
      first | refine WL.bin rfl rfl rfl rfl (int_eq_t y4 _ _ _) ?_
      first | refine WL.assign rfl rfl rfl ?_
      refine WL.done ?_
      refine EW.on ?_
      refine EW.ret ?_
      exact EW.returns Try.results6 rfl ⟨rfl, E5.trans (bei.mono E5.size)⟩
  · have z1 : ¬ (t : Int) < (ls.length : Int) := by omega
    have hend : t = min 60 ls.length := by omega
    refine EW.region ?_
    first | refine WL.move rfl rfl rfl ?_
    first | refine WL.move rfl rfl rfl ?_
    refine WL.len rfl rfl rfl (hL.len _ _) ?_
    first | refine WL.bin rfl rfl rfl rfl (int_lt_f z1 _ _ _) ?_
    first | refine WL.move rfl rfl rfl ?_
    first | refine WL.move rfl rfl rfl ?_ | refine WL.skip _ rfl rfl rfl ?_
    first | refine WL.bin rfl rfl rfl rfl (int_lt_f z2 _ _ _) ?_ | refine WL.skip _ rfl rfl rfl ?_
    first | refine WL.pick rfl rfl rfl rfl ?_
    refine WL.done ?_
    refine EW.on ?_
    refine EW.cond_f rfl ?_
    refine EW.exit ?_
    refine px_then ?_
    refine px_then ?_
    refine px_block ?_
    refine EW.on ?_
    refine EW.seq ?_
    refine EW.region ?_
    first | refine WL.move rfl rfl rfl ?_
    refine WL.call [v] enter11 rfl rfl rfl (sorted_any v ls _ (hL.below bei0)) ?_
    rintro _ w3 ⟨vw, ws, rfl, hw3, hws, _, be3⟩
    refine ⟨_, rfl, ?_⟩
    first | refine WL.assign rfl rfl rfl ?_
    refine WL.done ?_
    refine EW.on ?_
    refine EW.seq ?_
    refine EW.region ?_
    first | refine WL.move rfl rfl rfl ?_
    refine WL.call [vl] enter18 rfl rfl rfl (pack_any vl rs _ (hli.below be3) hsi (by omega)) ?_
    rintro _ w4 ⟨vc, cs, rfl, hc, hpk, be4⟩
    refine ⟨_, rfl, ?_⟩
    first | refine WL.move rfl rfl rfl ?_
    first | refine WL.extract rfl rfl rfl (ext_2 _ _ _).1 ?_
    first | refine WL.extract rfl rfl rfl (ext_2 _ _ _).2 ?_
    first | refine WL.assign rfl rfl rfl ?_
    first | refine WL.assign rfl rfl rfl ?_
    refine WL.done ?_
    refine EW.on ?_
    refine EW.seq ?_
    refine EW.seq ?_
    have hdd : rs.map RV.d = ws.map RV.d := by rw [hdi, hws, hend]
    have hwl : ws.length = rs.length := (d_len hdd).symm
    have hbb : decide ((0 : Int) < (cs.length : Int)) = decide ((0 : Int) < (ws.length : Int)) := by
      have h1 := pk_len hpk hsi.ok
      rw [List.length_map] at h1
      apply decide_eq_decide.2
      constructor
      · intro h; omega
      · intro h
        rcases Nat.eq_zero_or_pos cs.length with h0 | h0
        · rw [List.length_eq_zero_iff.1 h0] at hpk
          have := congrArg List.length (pk_nil hpk)
          simp at this
          rw [this] at hwl
          simp at hwl
          rw [hwl] at h
          simp at h
        · omega
    refine EW.region ?_
    first | refine WL.move rfl rfl rfl ?_
    first | refine WL.bin rfl rfl rfl rfl (int_ne_f rfl _ _ _) ?_
    first | refine WL.move rfl rfl rfl ?_
    first | refine WL.move rfl rfl rfl ?_ | refine WL.skip _ rfl rfl rfl ?_
    first | refine WL.move rfl rfl rfl ?_ | refine WL.skip _ rfl rfl rfl ?_
    refine WL.call [vl, vw] enter20 rfl rfl rfl (same_any vl vw rs ws _ ((hli.below be3).below be4) (hw3.below be4) hdd (by omega)) ?_
    rintro _ w5 ⟨rfl, be5⟩
    refine ⟨_, rfl, ?_⟩
    first | refine WL.un rfl rfl rfl (not_t _ _) ?_ | refine WL.skip _ rfl rfl rfl ?_
    first | refine WL.pick rfl rfl rfl rfl ?_
    first | refine WL.move rfl rfl rfl ?_
    first | refine WL.move rfl rfl rfl ?_ | refine WL.skip _ rfl rfl rfl ?_
    refine WL.len rfl rfl rfl (hc.len _ _) ?_
    refine WL.bin rfl rfl rfl rfl (int_gt_d _ _ _ _ _) ?_
    first | refine WL.move rfl rfl rfl ?_ | refine WL.skip _ rfl rfl rfl ?_
    refine WL.len rfl rfl rfl (hw3.len _ _) ?_
    refine WL.bin rfl rfl rfl rfl (int_gt_d _ _ _ _ _) ?_
    refine WL.bin rfl rfl rfl rfl (bool_ne_f hbb _ _ _) ?_
    first | refine WL.pick rfl rfl rfl rfl ?_
    refine WL.done ?_
    refine EW.on ?_
    refine EW.cond_f rfl ?_
    refine EW.skip ?_
    refine EW.on ?_
    refine EW.seq ?_
    have hcl := pk_len hpk hsi.ok
    rw [List.length_map] at hcl
    have E3 := bei0.trans (be3.mono bei0.size)
    have E4 := E3.trans (be4.mono E3.size)
    have E5 := E4.trans (be5.mono E4.size)
    have hl5 := ((hli.below be3).below be4).below be5
    have hw5 := (hw3.below be4).below be5
    have hc5 := hc.below be5
    refine EW.region ?_
    first | refine WL.assign rfl rfl rfl ?_
    refine WL.done ?_
    refine EW.on ?_
    refine EW.seq ?_
    refine EW.seq ?_
    refine EW.region ?_
    first | refine WL.assign rfl rfl rfl ?_
    refine WL.done ?_
    refine EW.on ?_
    refine EW.block ?_
    refine EW.loop (bbE vl vw vc) (LoR w5 (rs.map RV.d) cs) (fun x => cs.length - x.1) (0, 0) [3, 7, 8, 10, 11] rfl ⟨Below.refl _ _, Nat.zero_le _, Nat.zero_le _, hpk⟩ ?_
    rintro ⟨i, a_⟩ wj ⟨bei, hil, hal, hpi⟩
    dsimp only at hil hal hpi
    rw [List.length_map] at hal
    have hlI := hl5.below bei
    have hwI := hw5.below bei
    show EW _ _ _ _ [(3, vl), (7, vw), (8, vc), (10, .int .i64 (a_ : Int)), (11, .int .i64 (i : Int))] _
    refine EW.seq ?_
    refine EW.seq ?_
    refine EW.region ?_
    first | refine WL.move rfl rfl rfl ?_
    first | refine WL.move rfl rfl rfl ?_
    refine WL.len rfl rfl rfl (hc.len _ _) ?_
    first | refine WL.bin rfl rfl rfl rfl (int_lt_t ‹_› _ _ _) ?_ | refine WL.bin rfl rfl rfl rfl (int_lt_f ‹_› _ _ _) ?_ | refine WL.bin rfl rfl rfl rfl (int_lt_d _ _ _ _ _) ?_
    refine WL.done ?_
    refine EW.on ?_
    refine EW.cond_d rfl (fun h67 => ?_) (fun h67 => ?_)
    · refine EW.skip ?_
      refine EW.on ?_
      refine EW.seq ?_
      refine EW.block ?_
      refine EW.seq ?_
      have hi : i < cs.length := by omega
      have inx : IntKind.i64.wrap ((i : Int) + 1) = ((i + 1 : Nat) : Int) := by rw [IntKind.wrap_i64]; omega
      obtain ⟨c, hci⟩ : ∃ c, cs[i]? = some c := ⟨_, List.getElem?_eq_getElem hi⟩
      have hcd : cs.drop i = c :: cs.drop (i + 1) := by
        rw [List.drop_eq_getElem_cons hi]
        rw [List.getElem?_eq_getElem hi] at hci
        rw [Option.some.inj hci]
      rw [hcd] at hpi
      obtain ⟨D, hD⟩ : ∃ D, (rs.map RV.d).drop a_ = D := ⟨_, rfl⟩
      rw [hD] at hpi
      obtain ⟨hne, hcn, hrest⟩ := pk_split hpi
      obtain ⟨n, hfn⟩ : ∃ n, fitN 1008 D = n := ⟨_, rfl⟩
      have hfl := fit_le D 1008
      have hfp := fit_pos hne (fun d hd => hsi.ok d (by rw [← hD] at hd; exact List.mem_of_mem_drop hd))
      have hDl : D.length = rs.length - a_ := by rw [← hD]; simp
      rw [hfn] at hcn hrest hfl hfp
      rw [hcn] at hci
      rw [← hD] at hrest
      obtain ⟨gc, ic, csc, bc, hcc⟩ := hc5.item hci
      have y1 : ¬ (n : Int) < 1 := by omega
      have an : IntKind.i64.wrap ((a_ : Int) + (n : Int)) = ((a_ + n : Nat) : Int) := by rw [IntKind.wrap_i64]; omega
      have y2 : ¬ (ws.length : Int) < ((a_ + n : Nat) : Int) := by omega
      obtain ⟨P, hP⟩ : ∃ P, D.take n = P := ⟨_, rfl⟩
      have hPe : ((rs.drop a_).take (a_ + n - a_)).map RV.d = P := by rw [map_part, hD, show a_ + n - a_ = n by omega, hP]
      have hPl : P.length = n := by rw [← hP, List.length_take]; omega
      have hsP' : Srt P := by rw [← hP, ← hD]; exact hsi.part a_ n
      have hfP' : fitN 1008 P = P.length := by rw [hPl, ← hP]; exact fit_take hfn.symm
      have hsP : Srt (((rs.drop a_).take (a_ + n - a_)).map RV.d) := by rw [hPe]; exact hsP'
      have hfP : fitN 1008 (((rs.drop a_).take (a_ + n - a_)).map RV.d) = ((rs.drop a_).take (a_ + n - a_)).length := by rw [hPe, hfP', hPl, List.length_take, List.length_drop]; omega
      have y3 : ((encP P).length : Int) = 1008 := by rw [encP_len hfP']; rfl
      refine EW.region ?_
      first | refine WL.move rfl rfl rfl ?_
      first | refine WL.move rfl rfl rfl ?_
      refine WL.index rfl rfl rfl rfl (ic _) ?_
      refine WL.load rfl rfl rfl (ldI (bc.on bei) hcc) ?_
      first | refine WL.assign rfl rfl rfl ?_
      refine WL.done ?_
      refine EW.on ?_
      refine EW.seq ?_
      refine EW.seq ?_
      refine EW.region ?_
      first | refine WL.move rfl rfl rfl ?_
      first | refine WL.bin rfl rfl rfl rfl (int_lt_f y1 _ _ _) ?_
      first | refine WL.move rfl rfl rfl ?_
      first | refine WL.move rfl rfl rfl ?_ | refine WL.skip _ rfl rfl rfl ?_
      first | refine WL.move rfl rfl rfl ?_ | refine WL.skip _ rfl rfl rfl ?_
      first | refine WL.bin rfl rfl rfl rfl (int_add an _ _ _) ?_ | refine WL.skip _ rfl rfl rfl ?_
      first | refine WL.move rfl rfl rfl ?_ | refine WL.skip _ rfl rfl rfl ?_
      refine WL.len rfl rfl rfl (hw3.len _ _) ?_
      first | refine WL.bin rfl rfl rfl rfl (int_gt_f y2 _ _ _) ?_ | refine WL.skip _ rfl rfl rfl ?_
      first | refine WL.pick rfl rfl rfl rfl ?_
      refine WL.done ?_
      refine EW.on ?_
      refine EW.cond_f rfl ?_
      refine EW.skip ?_
      refine EW.on ?_
      refine EW.seq ?_
      refine EW.region ?_
      first | refine WL.move rfl rfl rfl ?_
      first | refine WL.move rfl rfl rfl ?_
      first | refine WL.move rfl rfl rfl ?_
      first | refine WL.move rfl rfl rfl ?_
      first | refine WL.bin rfl rfl rfl rfl (int_add an _ _ _) ?_
      refine WL.slice2 rfl rfl rfl rfl rfl (hlI.cutLH a_ (a_ + n) (by omega) (by omega) _) ?_
      refine WL.call [cut3 vl a_ (a_ + n)] enter7 rfl rfl rfl (encode_any _ ((rs.drop a_).take (a_ + n - a_)) _ (hlI.cut a_ (a_ + n) (by omega) (by omega)) hsP (by simp; omega) hfP) ?_
      rintro _ w9 ⟨v9, rfl, g9, be9⟩
      rw [hPe] at g9
      refine ⟨_, rfl, ?_⟩
      first | refine WL.move rfl rfl rfl ?_
      first | refine WL.extract rfl rfl rfl (ext_2 _ _ _).1 ?_
      first | refine WL.extract rfl rfl rfl (ext_2 _ _ _).2 ?_
      first | refine WL.assign rfl rfl rfl ?_
      first | refine WL.assign rfl rfl rfl ?_
      refine WL.done ?_
      refine EW.on ?_
      refine EW.seq ?_
      refine EW.region ?_
      first | refine WL.move rfl rfl rfl ?_
      first | refine WL.move rfl rfl rfl ?_
      refine WL.call [.int .i64 (n : Int), v9] enter8 rfl rfl rfl (decode_back n v9 P _ g9 hsP' hfP' hPl (by omega)) ?_
      rintro _ w10 ⟨v10, bs, rfl, hl10, hd10, be10⟩
      have hwJ := (hwI.below be9).below be10
      refine ⟨_, rfl, ?_⟩
      first | refine WL.move rfl rfl rfl ?_
      first | refine WL.extract rfl rfl rfl (ext_2 _ _ _).1 ?_
      first | refine WL.extract rfl rfl rfl (ext_2 _ _ _).2 ?_
      first | refine WL.assign rfl rfl rfl ?_
      first | refine WL.assign rfl rfl rfl ?_
      refine WL.done ?_
      refine EW.on ?_
      refine EW.seq ?_
      refine EW.seq ?_
      refine EW.region ?_
      first | refine WL.move rfl rfl rfl ?_
      first | refine WL.bin rfl rfl rfl rfl (int_ne_f rfl _ _ _) ?_
      first | refine WL.move rfl rfl rfl ?_
      first | refine WL.move rfl rfl rfl ?_ | refine WL.skip _ rfl rfl rfl ?_
      first | refine WL.bin rfl rfl rfl rfl (int_ne_f rfl _ _ _) ?_ | refine WL.skip _ rfl rfl rfl ?_
      first | refine WL.pick rfl rfl rfl rfl ?_
      first | refine WL.move rfl rfl rfl ?_
      first | refine WL.move rfl rfl rfl ?_ | refine WL.skip _ rfl rfl rfl ?_
      refine WL.len rfl rfl rfl (g9.len _ _) ?_
      first | refine WL.bin rfl rfl rfl rfl (int_ne_f y3 _ _ _) ?_ | refine WL.skip _ rfl rfl rfl ?_
      first | refine WL.pick rfl rfl rfl rfl ?_
      first | refine WL.move rfl rfl rfl ?_
      first | refine WL.move rfl rfl rfl ?_ | refine WL.skip _ rfl rfl rfl ?_
      first | refine WL.move rfl rfl rfl ?_ | refine WL.skip _ rfl rfl rfl ?_
      first | refine WL.move rfl rfl rfl ?_ | refine WL.skip _ rfl rfl rfl ?_
      first | refine WL.move rfl rfl rfl ?_ | refine WL.skip _ rfl rfl rfl ?_
      first | refine WL.move rfl rfl rfl ?_ | refine WL.skip _ rfl rfl rfl ?_
      first | refine WL.bin rfl rfl rfl rfl (int_add an _ _ _) ?_ | refine WL.skip _ rfl rfl rfl ?_
      refine WL.slice2 rfl rfl rfl rfl rfl (hwI.cutLH a_ (a_ + n) (by omega) (by omega) _) ?_
      refine WL.call [v10, cut3 vw a_ (a_ + n)] enter20 rfl rfl rfl (same_any v10 _ bs ((ws.drop a_).take (a_ + n - a_)) _ hl10 (hwJ.cut a_ (a_ + n) (by omega) (by omega)) (by rw [hd10, ← hPe, map_part, map_part, hdd]) (by have := d_len' hd10; omega)) ?_
      rintro _ w11 ⟨rfl, be11⟩
      refine ⟨_, rfl, ?_⟩
      first | refine WL.un rfl rfl rfl (not_t _ _) ?_ | refine WL.skip _ rfl rfl rfl ?_
      first | refine WL.pick rfl rfl rfl rfl ?_
      refine WL.done ?_
      refine EW.on ?_
      refine EW.cond_f rfl ?_
      refine EW.skip ?_
      refine EW.on ?_
      refine EW.region ?_
      first | refine WL.move rfl rfl rfl ?_
      first | refine WL.move rfl rfl rfl ?_
      first | refine WL.bin rfl rfl rfl rfl (int_add an _ _ _) ?_
      first | refine WL.assign rfl rfl rfl ?_
      refine WL.done ?_
      refine pn_block ?_
      refine EW.on ?_
      refine EW.region ?_
      first | refine WL.move rfl rfl rfl ?_
      first | refine WL.bin rfl rfl rfl rfl (int_add inx _ _ _) ?_
      first | refine WL.assign rfl rfl rfl ?_
      refine WL.done ?_
      have b1 := bei.trans (be9.mono bei.size)
      have b2 := b1.trans (be10.mono b1.size)
      refine EW.again (E := bbE vl vw vc) (R := LoR w5 (rs.map RV.d) cs) (m := fun x => cs.length - x.1) (x := (i, a_)) (i + 1, a_ + n) [3, 7, 8, 10, 11] rfl ⟨b2.trans (be11.mono b2.size), by show i + 1 ≤ _; omega, by show a_ + n ≤ _; rw [List.length_map]; omega, ?_⟩ (by show cs.length - (i + 1) < cs.length - i; omega)
      show PkR ((rs.map RV.d).drop (a_ + n)) (cs.drop (i + 1))
      rw [← List.drop_drop]
      exact hrest
    · refine EW.exit ?_
      refine px_then ?_
      refine px_then ?_
      refine px_block ?_
      refine EW.on ?_
      refine EW.seq ?_
      have y4 : (a_ : Int) = (ws.length : Int) := by
        rw [show cs.drop i = [] from List.drop_eq_nil_of_le (by omega)] at hpi
        have := pk_nil hpi
        rw [List.drop_eq_nil_iff, List.length_map] at this
        omega
      refine EW.region ?_
      first | refine WL.move rfl rfl rfl ?_
      first | refine WL.move rfl rfl rfl ?_
      refine WL.len rfl rfl rfl (hw3.len _ _) ?_
      first | refine WL.bin rfl rfl rfl rfl (int_eq_t y4 _ _ _) ?_
      first | refine WL.assign rfl rfl rfl ?_
      refine WL.done ?_
      refine EW.on ?_
      refine EW.ret ?_
      exact EW.returns Try.results6 rfl ⟨rfl, E5.trans (bei.mono E5.size)⟩
end Go.Proofs.Yteghbkeaojbdgaa
