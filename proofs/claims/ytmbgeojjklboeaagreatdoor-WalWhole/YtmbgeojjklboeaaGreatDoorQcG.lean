import Derived.Test.YtmbgeojjklboeaaGreatDoorQaG
import Derived.Test.YtmbgeojjklboeaaGreatDoorWhG
import Derived.Test.YtmbgeojjklboeaaGreatDoorWfG
set_option linter.unusedVariables false
set_option linter.unusedSimpArgs false
namespace Go.Proofs.YtmbgeojjklboeaaGreatDoor
open Go.RowKit

set_option maxRecDepth 100000 in
set_option maxHeartbeats 1000000 in
theorem must_no (w : World) : Calls Tryz.prog 59 #[.int .i64 80] w fun e w' => e = .panicked [{ v := surV 80, recovered := false }] ∧ w' = w := by
  refine calls_of_args [.int .i64 80] Tryz.func59 rfl 6 Tryz.ntmps59 (by show 1 ≤ 6; decide) ?_; refine EW.seq ?_; refine EW.region ?_; refine WL.move rfl rfl rfl ?_; refine WL.bin rfl rfl rfl rfl (int_ne_t (by decide) _ _ _) ?_; refine WL.done ?_; refine EW.on ?_; refine EW.cond_t rfl ?_; refine EW.region ?_; refine WL.move rfl rfl rfl ?_; refine WL.callP [.int .i64 80] enter35 rfl rfl rfl (wgiveUp_any 80 _) ?_
  rintro _ w2 ⟨rfl, hz⟩
  rw [hz]
  exact .inr ⟨_, rfl, pp_post ⟨rfl, rfl⟩⟩
/-- What the call throws that meets a disk that gives up. -/
abbrev sur : List PanicEntry := [{ v := surV 80, recovered := false }]
/-- An armed call's end: it went on, or the disk gave up. -/
def Gone (w : World) (L : Lay) (N c : Nat) (X : (Nat → List UInt8) → Prop) (w' : World) : Prop := ∃ L' d' c', Turn w w' L L' ∧ Dz w' L' N d' c' ∧ c' ≤ c ∧ (∀ i, i < N → (d' i).length = 512) ∧ X d'
set_option maxRecDepth 100000 in
set_option maxHeartbeats 1000000 in
theorem awrite {w : World} {L : Lay} {N : Nat} {d s : Nat → List UInt8} {ps : List Nat} {left c : Nat} (n : Nat) (h : Da w L N d s ps left c) (i : Nat) (hi : i < N) (hip : i ∉ ps) (vb : Value) (b : List UInt8) (hb : b.length = 512) (hv : Has w vb b) (few : ps.length < 1000000) (hcal : c < 1000000000000) : Calls Tryz.prog 64 #[dkV L.p n, .int .i64 (i : Int), vb] w fun e w' => (left ≠ 1 ∧ e = .returned (.tuple #[]) ∧ ∃ L', Turn w w' L L' ∧ Da w' L' N d (setS s i b) (ps ++ [i]) (left - 1) (c + 1)) ∨ (left = 1 ∧ e = .panicked sur ∧ Gone w L N (c + 1) (Cr N d (setS s i b)) w') := by
  obtain ⟨D, h1, h2, h3, h4, h5, h6, h7, h8⟩ := h.ex
  have hpl : D.pen.length = ps.length := by rw [← h7, List.length_map]
  refine calls_of_args [dkV L.p n, .int .i64 (i : Int), vb] Tryz.func64 rfl 12 Tryz.ntmps64 (by show 3 ≤ 12; decide) ?_; refine EW.seq ?_; refine EW.region ?_
  obtain ⟨w1, q, r1, b1, e1, hq⟩ := box55 L.p n w
  have g1 := h1.below e1
  refine WL.box rfl rfl rfl r1 ?_; refine WL.done ?_; refine EW.on ?_; refine EW.region ?_; refine WL.field rfl rfl rfl (fld55_0 q _) ?_; refine WL.load rfl rfl rfl (ldP41 b1) ?_; refine WL.move rfl rfl rfl ?_; refine WL.move rfl rfl rfl ?_; refine WL.call [.pointer (some ⟨L.p, 0, none⟩), .int .i64 (i : Int), vb] enter79 rfl rfl rfl (write_ok g1 h2 i (by omega) vb b hb (hv.below e1) (by omega) (by omega) (by have := h.lt; omega)) ?_
  rintro _ w2 ⟨rfl, L', t2, d2⟩
  refine ⟨_, rfl, ?_⟩
  have t02 : Turn w w2 L L' := ⟨(Fx.of_below e1).trans t2.fx (fun k _ h => h), fun k hk => (t2.own k hk).imp id (fun h => Nat.le_trans e1.size h), t2.p⟩
  have hrd : ∀ j, j < N → readB (pushD D i b) j = setS s i b j := fun j hj => by
    have := readB_push D i j b
    unfold setS
    by_cases hji : j = i
    · rw [if_pos hji] at this ⊢; exact this
    · rw [if_neg hji] at this ⊢; rw [← h6 j hj]; exact this
  have hnd : ((pushD D i b).pen.map Prod.fst).Nodup := by
    show ((D.pen ++ [(i, b)]).map Prod.fst).Nodup
    rw [List.map_append, h7, List.nodup_append]
    exact ⟨h.nd, by simp, fun a ha c hc e => by simp at hc; rw [e, hc] at ha; exact hip ha⟩
  by_cases h1l : left = 1
  · rw [show changedE D = 80 by unfold changedE; rw [if_pos (by omega)]]
    refine WL.callP [.int .i64 80] enter59 rfl rfl rfl (must_no _) ?_
    rintro _ w3 ⟨rfl, hz3⟩
    rw [hz3]
    refine .inr ⟨_, rfl, pp_post ?_⟩; refine .inr ⟨h1l, rfl, L', fun j => secB (changedD (pushD D i b)).img j, c + 1, t02, ?_, Nat.le_refl _, ?_, ?_⟩
    all_goals have hcd : changedD (pushD D i b) = crashD { pushD D i b with calls := D.calls + 1, left := 0 } D.keep D.torn D.off := by (unfold changedD; rw [if_pos (by show D.left = 1; omega)]; rfl)
    · exact ⟨_, d2, by rw [hcd]; rfl, by rw [hcd]; exact h4, fun _ _ => rfl, by rw [hcd]; rfl, by rw [hcd]; show D.calls + 1 = c + 1; omega⟩
    · intro j hj
      refine secB_length _ D.n j ?_ (by omega)
      have := d2.ok.len
      rw [this, hcd]
      rfl
    · intro j hj
      obtain ⟨k, hk, e⟩ := crash_cr (D := { pushD D i b with calls := D.calls + 1, left := 0 }) ⟨h1.ok.n1, h1.ok.n2, h1.ok.len, fun x hx => by
        have hx : x ∈ D.pen ++ [(i, b)] := hx
        rcases List.mem_append.1 hx with hx | hx
        · exact h1.ok.sec x hx
        · simp at hx; rw [hx]; exact ⟨by show i < D.n; omega, hb⟩, by show (D.pen ++ [(i, b)]).length ≤ 1000000; rw [List.length_append]; simp; omega, by show D.calls + 1 ≤ 1000000000000; omega⟩ hnd D.keep D.torn D.off j (by show j < D.n; omega)
      refine ⟨k, hk, ?_⟩
      show secB (changedD (pushD D i b)).img j = _
      rw [hcd, e]
      congr 1
      · congr 1
        exact hrd j hj
      · congr 1
        exact h5 j hj
  · rw [show changedE D = 0 by unfold changedE; rw [if_neg (by omega)]]
    refine WL.call [.int .i64 0] enter59 rfl rfl rfl (must_ok _) ?_
    rintro _ w3 ⟨rfl, hz3⟩
    rw [hz3]
    refine ⟨_, rfl, ?_⟩; refine WL.done ?_
    have hc : changedD (pushD D i b) = tickD (pushD D i b) := by unfold changedD; rw [if_neg (by show ¬ D.left = 1; omega)]
    rw [hc] at d2
    refine EW.falls Tryz.results64 (.inl ⟨h1l, rfl, L', t02, ⟨_, d2, h2, by show D.left - 1 = left - 1; omega, h4, h5, fun j hj => by rw [← hrd j hj]; rfl, by show (D.pen ++ [(i, b)]).map Prod.fst = _; rw [List.map_append, h7]; rfl, by show D.calls + 1 = c + 1; omega⟩, ?_, by have := h.lt; omega⟩)
    have : (pushD D i b).pen.map Prod.fst = ps ++ [i] := by show (D.pen ++ [(i, b)]).map Prod.fst = _; rw [List.map_append, h7]; rfl
    rw [← this]
    exact hnd
set_option maxRecDepth 100000 in
set_option maxHeartbeats 1000000 in
theorem aflush {w : World} {L : Lay} {N : Nat} {d s : Nat → List UInt8} {ps : List Nat} {left c : Nat} (n : Nat) (h : Da w L N d s ps left c) (hcal : c < 1000000000000) : Calls Tryz.prog 57 #[dkV L.p n] w fun e w' => (left ≠ 1 ∧ e = .returned (.tuple #[]) ∧ ∃ L', Turn w w' L L' ∧ Da w' L' N s s [] (left - 1) (c + 1)) ∨ (left = 1 ∧ e = .panicked sur ∧ Gone w L N (c + 1) (Cr N d s) w') := by
  obtain ⟨D, h1, h2, h3, h4, h5, h6, h7, h8⟩ := h.ex
  refine calls_of_args [dkV L.p n] Tryz.func57 rfl 6 Tryz.ntmps57 (by show 1 ≤ 6; decide) ?_; refine EW.seq ?_; refine EW.region ?_
  obtain ⟨w1, q, r1, b1, e1, hq⟩ := box55 L.p n w
  have g1 := h1.below e1
  refine WL.box rfl rfl rfl r1 ?_; refine WL.done ?_; refine EW.on ?_; refine EW.region ?_; refine WL.field rfl rfl rfl (fld55_0 q _) ?_; refine WL.load rfl rfl rfl (ldP41 b1) ?_
  by_cases h1l : left = 1
  · refine WL.call [.pointer (some ⟨L.p, 0, none⟩)] enter76 rfl rfl rfl (flush_crash g1 h2 (by omega) (by omega)) ?_
    rintro _ w2 ⟨rfl, t2, d2⟩
    refine ⟨_, rfl, ?_⟩; refine WL.callP [.int .i64 80] enter59 rfl rfl rfl (must_no _) ?_
    rintro _ w3 ⟨rfl, hz3⟩
    rw [hz3]
    have t02 : Turn w w2 L (bareL L) := ⟨(Fx.of_below e1).trans t2.fx (fun k _ h => h), fun k hk => (t2.own k hk).imp id (fun h => Nat.le_trans e1.size h), t2.p⟩
    refine .inr ⟨_, rfl, pp_post ?_⟩; refine .inr ⟨h1l, rfl, bareL L, fun j => secB (changedD D).img j, c + 1, t02, ?_, Nat.le_refl _, ?_, ?_⟩
    all_goals have hcd : changedD D = crashD { D with calls := D.calls + 1, left := 0 } D.keep D.torn D.off := by (unfold changedD; rw [if_pos (by omega)])
    · exact ⟨_, d2, by rw [hcd]; rfl, by rw [hcd]; exact h4, fun _ _ => rfl, by rw [hcd]; rfl, by rw [hcd]; show D.calls + 1 = c + 1; omega⟩
    · intro j hj
      refine secB_length _ D.n j ?_ (by omega)
      have := d2.ok.len
      rw [this, hcd]
      rfl
    · intro j hj
      obtain ⟨k, hk, e⟩ := crash_cr (D := { D with calls := D.calls + 1, left := 0 }) ⟨h1.ok.n1, h1.ok.n2, h1.ok.len, h1.ok.sec, h1.ok.few, by show D.calls + 1 ≤ 1000000000000; omega⟩ (by rw [show (({ D with calls := D.calls + 1, left := 0 } : Dv).pen) = D.pen from rfl, h7]; exact h.nd) D.keep D.torn D.off j (by show j < D.n; omega)
      refine ⟨k, hk, ?_⟩
      show secB (changedD D).img j = _
      rw [hcd, e]
      congr 1
      · congr 1
        exact h6 j hj
      · congr 1
        exact h5 j hj
  · refine WL.call [.pointer (some ⟨L.p, 0, none⟩)] enter76 rfl rfl rfl (flush_ok g1 h2 (by omega) (by have := h.lt; omega) (by omega)) ?_
    rintro _ w2 ⟨rfl, t2, d2⟩
    refine ⟨_, rfl, ?_⟩; refine WL.call [.int .i64 0] enter59 rfl rfl rfl (must_ok _) ?_
    rintro _ w3 ⟨rfl, hz3⟩
    rw [hz3]
    refine ⟨_, rfl, ?_⟩; refine WL.done ?_
    have hrf : ∀ j, j < N → readB (flushD D) j = s j := fun j hj => by rw [readB_flush D h1.ok j (by omega)]; exact h6 j hj
    refine EW.falls Tryz.results57 (.inl ⟨h1l, rfl, _, ⟨(Fx.of_below e1).trans t2.fx (fun k _ h => h), fun k hk => (t2.own k hk).imp id (fun h => Nat.le_trans e1.size h), t2.p⟩, ⟨_, d2, h2, by show D.left - 1 = left - 1; omega, h4, fun j hj => ?_, hrf, rfl, by show D.calls + 1 = c + 1; omega⟩, by simp, by have := h.lt; omega⟩)
    rw [← hrf j hj, readB_sec]
    show _ = if nw [] j = 0 then _ else _
    rw [nw_nil, if_pos rfl]
end Go.Proofs.YtmbgeojjklboeaaGreatDoor

set_option linter.unusedVariables false
set_option linter.unusedSimpArgs false
namespace Go.Proofs.YtmbgeojjklboeaaGreatDoor
open Go.RowKit

/-- Behind a crash, but for the sectors of U. -/
def CrO (U : Nat → Prop) (N : Nat) (d s d' : Nat → List UInt8) : Prop := ∀ i, i < N → ¬ U i → ∃ k, k ≤ 512 ∧ d' i = (s i).take k ++ (d i).drop k
theorem Cr.o {N : Nat} {d s s' d' : Nat → List UInt8} (h : Cr N d s' d') {U : Nat → Prop} (hs : ∀ i, i < N → ¬ U i → s' i = s i) : CrO U N d s d' := fun i hi hu => by
  obtain ⟨k, hk, e⟩ := h i hi
  exact ⟨k, hk, by rw [e, hs i hi hu]⟩
theorem CrO.un {U : Nat → Prop} {N : Nat} {d s d' : Nat → List UInt8} (h : CrO U N d s d') {i : Nat} (hi : i < N) (hu : ¬ U i) (hs : s i = d i) : d' i = d i := by
  obtain ⟨k, _, e⟩ := h i hi hu
  rw [e, hs, List.take_append_drop]
theorem Gone.pre {w w1 w2 : World} {L : Lay} {N c : Nat} {X : (Nat → List UInt8) → Prop} (hb : Below w.heap.size w w1) (h : Gone w1 L N c X w2) : Gone w L N c X w2 := by
  obtain ⟨L', d', c', h1, h2⟩ := h
  exact ⟨L', d', c', h1.pre hb, h2⟩
theorem Gone.mono {w w2 : World} {L : Lay} {N c c2 : Nat} {X Y : (Nat → List UInt8) → Prop} (h : Gone w L N c X w2) (hc : c ≤ c2) (hX : ∀ d', (∀ i, i < N → (d' i).length = 512) → X d' → Y d') : Gone w L N c2 Y w2 := by
  obtain ⟨L', d', c', h1, h2, h3, h4, h5⟩ := h
  exact ⟨L', d', c', h1, h2, Nat.le_trans h3 hc, h4, hX d' h4 h5⟩
theorem Gone.from {w w1 w2 : World} {L L1 : Lay} {N c : Nat} {X : (Nat → List UInt8) → Prop} (t : Turn w w1 L L1) (h : Gone w1 L1 N c X w2) : Gone w L N c X w2 := by
  obtain ⟨L', d', c', h1, h2⟩ := h
  exact ⟨L', d', c', t.trans h1, h2⟩
theorem setS_ne (s : Nat → List UInt8) {i j : Nat} (b : List UInt8) (h : j ≠ i) : setS s i b j = s j := by unfold setS; rw [if_neg h]
theorem setS_eq (s : Nat → List UInt8) (i : Nat) (b : List UInt8) : setS s i b i = b := by unfold setS; rw [if_pos rfl]
set_option maxRecDepth 100000 in
set_option maxHeartbeats 1000000 in
theorem ablank {w : World} {L : Lay} {N : Nat} {d s : Nat → List UInt8} {ps : List Nat} {left c : Nat} (n : Nat) (h : Da w L N d s ps left c) (i : Nat) (hi : i < N) (hip : i ∉ ps) (few : ps.length < 1000000) (hcal : c < 1000000000000) : Calls Tryz.prog 66 #[dkV L.p n, .int .i64 (i : Int)] w fun e w' => (left ≠ 1 ∧ e = .returned (.tuple #[]) ∧ ∃ L', Turn w w' L L' ∧ Da w' L' N d (setS s i zS) (ps ++ [i]) (left - 1) (c + 1)) ∨ (left = 1 ∧ e = .panicked sur ∧ Gone w L N (c + 1) (Cr N d (setS s i zS)) w') := by
  refine calls_of_args [dkV L.p n, .int .i64 (i : Int)] Tryz.func66 rfl 8 Tryz.ntmps66 (by show 2 ≤ 8; decide) ?_; refine EW.seq ?_; refine EW.region ?_
  obtain ⟨w1, q, r1, b1, e1, hq⟩ := box55 L.p n w
  have h1 := h.below e1
  refine WL.box rfl rfl rfl r1 ?_; refine WL.done ?_; refine EW.on ?_
  refine EW.ordPB [(0, 0, 1), (1, 0, 0), (2, 1, 1), (3, 1, 0)] (fun ch W => ch = sur ∧ left = 1 ∧ Gone w1 L N (c + 1) (Cr N d (setS s i zS)) W) (fun ch W h => by
    obtain ⟨rfl, h⟩ := h
    repeat (first | refine pp_then ?_ | refine pp_block ?_)
    exact pp_post (.inr ⟨h.1, rfl, h.2.pre e1⟩)) (by kernel_rfl) rfl (by kernel_rfl) ?_
  simp only [opsZ, List.getD_cons_zero, List.getD_cons_succ]; refine ZE.load rfl rfl rfl rfl sz1 (fun W hW => ld55 (b1.on (sb_of hW))) ?_; refine ZE.move rfl rfl rfl rfl sz0 ?_; refine ZE.mks (fun v W => Has W v zS ∧ Below w1.heap.size w1 W) rfl rfl rfl rfl (fun _ _ h => .inr h.2) (fun W hW => ⟨_, _, run_mk34 W 512 (by decide), by have := Has.new (bs := zS) (Blk.new W _ 5) 512 (by simp [zS]); simpa [zS] using this, hW.trans ((below_new W _).mono hW.size)⟩) ?_
  rintro vz ⟨_, _, _⟩
  refine ZE.callRP [dkV L.p n, .int .i64 (i : Int), vz] (fun v W => v = .tuple #[] ∧ left ≠ 1 ∧ ∃ L', Turn w1 W L L' ∧ Da W L' N d (setS s i zS) (ps ++ [i]) (left - 1) (c + 1)) enter64 rfl rfl rfl (fun _ _ _ => .inl rfl) (fun W hW => (awrite n (h1.below hW.2) i hi hip vz zS (by simp [zS]) hW.1 few hcal).mono fun e w' h => by
    rcases h with ⟨g0, g1, L', g2, g3⟩ | ⟨g0, g1, g2⟩
    · exact .inl ⟨_, g1, rfl, g0, L', g2.pre hW.2, g3⟩
    · exact .inr ⟨_, g1, rfl, g0, g2.pre hW.2⟩) ?_
  rintro _ ⟨_, rfl, _⟩
  rintro w2 ⟨_, hne, L', t2, d2⟩
  exact EW.falls Tryz.results66 (.inl ⟨hne, rfl, L', t2.pre e1, d2⟩)
set_option maxRecDepth 100000 in
set_option maxHeartbeats 1000000 in
theorem awritePage {w : World} {L : Lay} {N : Nat} {d s : Nat → List UInt8} {ps : List Nat} {left c : Nat} (n : Nat) (h : Da w L N d s ps left c) (i : Nat) (hi : i + 1 < N) (hip : i ∉ ps) (hip2 : i + 1 ∉ ps) (hN : N ≤ 1000000) (vb : Value) (b : List UInt8) (hb : b.length = 1024) (hv : Has w vb b) (hvF : ∀ k, vb.ownBlock = some k → ¬ L.F k) (few : ps.length + 2 < 1000000) (hcal : c + 2 < 1000000000000) : Calls Tryz.prog 62 #[dkV L.p n, .int .i64 (i : Int), vb] w fun e w' => (left ≠ 1 ∧ left ≠ 2 ∧ e = .returned (.tuple #[]) ∧ ∃ L', Turn w w' L L' ∧ Da w' L' N d (setS (setS s i (b.take 512)) (i + 1) (b.drop 512)) (ps ++ [i] ++ [i + 1]) (left - 2) (c + 2)) ∨ ((left = 1 ∨ left = 2) ∧ e = .panicked sur ∧ Gone w L N (c + 2) (CrO (fun j => j = i ∨ j = i + 1) N d s) w') := by
  have a13 : IntKind.i64.wrap ((i : Int) + 1) = ((i + 1 : Nat) : Int) := by rw [IntKind.wrap_i64]; omega
  refine calls_of_args [dkV L.p n, .int .i64 (i : Int), vb] Tryz.func62 rfl 17 Tryz.ntmps62 (by show 3 ≤ 17; decide) ?_; refine EW.seq ?_; refine EW.region ?_
  obtain ⟨w1, q, r1, b1, e1, hq⟩ := box55 L.p n w
  have h1 := h.below e1
  have v1 := hv.below e1
  refine WL.box rfl rfl rfl r1 ?_; refine WL.done ?_; refine EW.on ?_; refine EW.seq ?_
  refine EW.ordPB [(0, 0, 1), (1, 0, 0), (2, 0, 0), (3, 0, 0), (4, 1, 0)] (fun ch W => ch = sur ∧ left = 1 ∧ Gone w1 L N (c + 1) (Cr N d (setS s i (b.take 512))) W) (fun ch W h => by
    obtain ⟨rfl, h⟩ := h
    repeat (first | refine pp_then ?_ | refine pp_block ?_)
    exact pp_post (.inr ⟨.inl h.1, rfl, (h.2.pre e1).mono (by omega) fun d' _ hc => hc.o fun j _ hj => setS_ne _ _ (fun e => hj (.inl e))⟩)) (by kernel_rfl) rfl (by kernel_rfl) ?_
  simp only [opsZ, List.getD_cons_zero, List.getD_cons_succ]; refine ZE.load rfl rfl rfl rfl sz1 (fun W hW => ld55 (b1.on (sb_of hW))) ?_; refine ZE.move rfl rfl rfl rfl sz0 ?_; refine ZE.move rfl rfl rfl rfl sz0 ?_; refine ZE.sliceH rfl rfl rfl rfl rfl sz0 (fun W => by rw [sl37]; exact v1.cutH 512 (by omega) W) ?_
  refine ZE.callRP [dkV L.p n, .int .i64 (i : Int), cutV vb 0 512] (fun v W => v = .tuple #[] ∧ left ≠ 1 ∧ ∃ L', Turn w1 W L L' ∧ Da W L' N d (setS s i (b.take 512)) (ps ++ [i]) (left - 1) (c + 1)) enter64 rfl rfl rfl (fun _ _ _ => .inl rfl) (fun W hW => (awrite n (h1.below hW) i (by omega) hip (cutV vb 0 512) (b.take 512) (by simp; omega) (by have := (v1.below hW).cut 0 512 (by omega) (by omega); simpa using this) (by omega) (by omega)).mono fun e w' h => by
    rcases h with ⟨g0, g1, L', g2, g3⟩ | ⟨g0, g1, g2⟩
    · exact .inl ⟨_, g1, rfl, g0, L', g2.pre hW, g3⟩
    · exact .inr ⟨_, g1, rfl, g0, g2.pre hW⟩) ?_
  rintro _ ⟨_, rfl, _⟩
  rintro w2 ⟨_, hne, L', t2, d2⟩
  have b2 := b1.fx t2.fx (fun hF => by have := h.F _ hF; omega)
  have v2 := v1.fx t2.fx hvF
  refine EW.on ?_
  refine EW.ordPB [(0, 0, 1), (1, 0, 0), (2, 0, 0), (3, 0, 0), (4, 0, 0), (5, 1, 0)] (fun ch W => ch = sur ∧ left - 1 = 1 ∧ Gone w2 L' N (c + 1 + 1) (Cr N d (setS (setS s i (b.take 512)) (i + 1) (b.drop 512))) W) (fun ch W h => by
    obtain ⟨rfl, h⟩ := h
    repeat (first | refine pp_then ?_ | refine pp_block ?_)
    exact pp_post (.inr ⟨.inr (by omega), rfl, ((h.2.from t2).pre e1).mono (by omega) fun d' _ hc => hc.o fun j _ hj => by rw [setS_ne _ _ (fun e => hj (.inr e)), setS_ne _ _ (fun e => hj (.inl e))]⟩)) (by kernel_rfl) rfl (by kernel_rfl) ?_
  simp only [opsZ, List.getD_cons_zero, List.getD_cons_succ]; refine ZE.load rfl rfl rfl rfl sz1 (fun W hW => ld55 (b2.on (sb_of hW))) ?_; refine ZE.move rfl rfl rfl rfl sz0 ?_; refine ZE.bin rfl rfl rfl rfl rfl sz0 (fun W => int_add a13 W _ _) ?_; refine ZE.move rfl rfl rfl rfl sz0 ?_; refine ZE.sliceL rfl rfl rfl rfl rfl sz0 (fun W => by rw [sl37]; exact v2.cutL 512 (by omega) W) ?_
  refine ZE.callRP [dkV L.p n, .int .i64 ((i + 1 : Nat) : Int), cutV vb 512 b.length] (fun v W => v = .tuple #[] ∧ left - 1 ≠ 1 ∧ ∃ L'', Turn w2 W L' L'' ∧ Da W L'' N d (setS (setS s i (b.take 512)) (i + 1) (b.drop 512)) (ps ++ [i] ++ [i + 1]) (left - 1 - 1) (c + 1 + 1)) enter64 rfl rfl rfl (fun _ _ _ => .inl rfl) (fun W hW => by
    rw [← t2.p]
    exact (awrite n (d2.below hW) (i + 1) hi (by simp [hip2]) (cutV vb 512 b.length) (b.drop 512) (by simp; omega) (by have := (v2.below hW).cut 512 b.length (by omega) (Nat.le_refl _); simpa [List.take_of_length_le] using this) (by simp; omega) (by omega)).mono fun e w' h => by
      rcases h with ⟨g0, g1, L'', g2, g3⟩ | ⟨g0, g1, g2⟩
      · exact .inl ⟨_, g1, rfl, g0, L'', g2.pre hW, g3⟩
      · exact .inr ⟨_, g1, rfl, g0, g2.pre hW⟩) ?_
  rintro _ ⟨_, rfl, _⟩
  rintro w3 ⟨_, hne2, L'', t3, d3⟩
  exact EW.falls Tryz.results62 (.inl ⟨hne, by omega, rfl, L'', (t2.pre e1).trans t3, d3⟩)
end Go.Proofs.YtmbgeojjklboeaaGreatDoor
