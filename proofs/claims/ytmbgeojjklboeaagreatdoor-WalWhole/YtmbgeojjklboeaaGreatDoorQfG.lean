import Derived.Test.YtmbgeojjklboeaaGreatDoorQd
import Derived.Test.YtmbgeojjklboeaaGreatDoorQaG
import Derived.Test.YtmbgeojjklboeaaGreatDoorWm
set_option linter.unusedVariables false
set_option linter.unusedSimpArgs false
namespace Go.Proofs.YtmbgeojjklboeaaGreatDoor
open Go.RowKit

/-- The armed device, read: as one that is not armed. -/
theorem Da.rd {w : World} {L : Lay} {N : Nat} {d s : Nat → List UInt8} {ps : List Nat} {left c : Nat} (h : Da w L N d s ps left c) : ∃ D, Dev w L D ∧ D.down = false ∧ D.n = N ∧ ∀ i, i < N → readB D i = s i := by
  obtain ⟨D, h1, h2, _, h4, _, h6, _⟩ := h.ex
  exact ⟨D, h1, h2, h4, h6⟩
def UsN (g : Nat → Nat) (l : List Nat) (i : Nat) : Prop := ∃ x ∈ l, i = g x ∨ i = g x + 1
def psN (g : Nat → Nat) (l : List Nat) : List Nat := l.flatMap fun x => [g x, g x + 1]
theorem mem_psN {g : Nat → Nat} {l : List Nat} {i : Nat} : i ∈ psN g l ↔ UsN g l i := by simp [psN, UsN]
theorem psN_snoc (g : Nat → Nat) {l : List Nat} {t x : Nat} (h : l[t]? = some x) : psN g (l.take (t + 1)) = psN g (l.take t) ++ [g x] ++ [g x + 1] := by
  rw [List.take_add_one, h]
  simp [psN, List.flatMap_append]
theorem psN_len (g : Nat → Nat) (l : List Nat) : (psN g l).length = 2 * l.length := by
  induction l with
  | nil => rfl
  | cons a r ih => simp only [psN, List.flatMap_cons, List.length_append, List.length_cons, List.length_nil] at ih ⊢; omega
theorem take_neN {l : List Nat} (hd : l.Nodup) {t x y : Nat} (h : l[t]? = some x) (hy : y ∈ l.take t) : y ≠ x := fun e => by
  have htl := (List.getElem?_eq_some_iff.1 h).1
  have e2 : l = l.take t ++ (x :: l.drop (t + 1)) := by
    rw [show x :: l.drop (t + 1) = l.drop t from by
      rw [List.drop_eq_getElem_cons htl]
      congr 1
      exact (Option.some.inj (h.symm.trans (List.getElem?_eq_getElem _))), List.take_append_drop]
  rw [e2, List.nodup_append] at hd
  exact hd.2.2 y hy x (by simp) e
theorem psN_new {g : Nat → Nat} (hg : Pl g) {l : List Nat} (hd : l.Nodup) {t x : Nat} (h : l[t]? = some x) : g x ∉ psN g (l.take t) ∧ g x + 1 ∉ psN g (l.take t) := by
  constructor
  · rw [mem_psN]
    rintro ⟨y, hy, e⟩
    have := hg.ne x y (fun e => take_neN hd h hy e.symm)
    omega
  · rw [mem_psN]
    rintro ⟨y, hy, e⟩
    have := hg.ne x y (fun e => take_neN hd h hy e.symm)
    have := hg.ne y x (take_neN hd h hy)
    omega
theorem UsN.take {g : Nat → Nat} {l : List Nat} {t i : Nat} (h : UsN g (l.take t) i) : UsN g l i := by
  obtain ⟨x, hx, e⟩ := h
  exact ⟨x, List.mem_of_mem_take hx, e⟩
theorem numsT_nodup (bs : List UInt8) (t : Nat) : (numsT bs t).Nodup := List.Nodup.sublist List.filter_sublist List.nodup_range
theorem homT_other (n j : Nat) : ∀ (l : List Nat) (s : Nat → List UInt8), ¬ UsN (gH n) l j → homT n s l j = s j
  | [], s, _ => rfl
  | a :: r, s, h => by
    have h1 : j ≠ 1 + 2 * (n + a) := fun e => h ⟨a, List.mem_cons_self, .inl e⟩
    have h2 : j ≠ 1 + 2 * (n + a) + 1 := fun e => h ⟨a, List.mem_cons_self, .inr e⟩
    show homT n (hom1 n s a) r j = s j
    rw [homT_other n j r _ (fun ⟨x, hx, e⟩ => h ⟨x, List.mem_cons_of_mem _ hx, e⟩)]
    unfold hom1
    rw [setS_ne _ _ h2, setS_ne _ _ h1]
theorem no_zeroN (g : Nat → Nat) (hg : ∀ m, 0 < g m) (l : List Nat) : ¬ UsN g l 0 := by
  rintro ⟨x, _, e⟩
  have := hg x
  omega
/-- What may be behind a crash in a repetition. -/
inductive RpX (n N : Nat) (d : Nat → List UInt8) (l : List Nat) (bs : List UInt8) (d' : Nat → List UInt8) : Prop
  | a (hu : Un (UsN (gH n) l) N d d') : RpX n N d l bs d'
  | b (hu : Un (· = 0) N (homT n d l) d') (ht : Tn (bs.set 511 0) (d 0) (d' 0)) : RpX n N d l bs d'
structure RpA (w2 : World) (L : Lay) (N n : Nat) (d : Nat → List UInt8) (left c : Nat) (l : List Nat) (x : Nat × Lay) (W : World) : Prop where
  t : Turn w2 W L x.2
  d : Da W x.2 N d (homT n d (l.take x.1)) (psN (gH n) (l.take x.1)) (left - 2 * x.1) (c + 2 * x.1)
  le : x.1 ≤ l.length
  lf : left = 0 ∨ 2 * x.1 < left
theorem areadO {w : World} {L : Lay} {N : Nat} {d s : Nat → List UInt8} {ps : List Nat} {left c : Nat} (n : Nat) (h : Da w L N d s ps left c) (i : Nat) (hi : i < N) : Calls Tryz.prog 33 #[dkV L.p n, .int .i64 (i : Int)] w fun e w' => ∃ u, e = .returned u ∧ Ob w' w.heap.size u (s i) ∧ Below w.heap.size w w' := by
  obtain ⟨D, h1, h2, h4, h5⟩ := h.rd
  rw [← h5 i hi]
  exact dreadO_ok n h1 h2 i (by omega)
set_option maxRecDepth 100000 in
set_option maxHeartbeats 1000000 in
theorem areadPage {w : World} {L : Lay} {N : Nat} {d s : Nat → List UInt8} {ps : List Nat} {left c : Nat} (n : Nat) (h : Da w L N d s ps left c) (i : Nat) (hi : i + 1 < N) (hN : N ≤ 1000000) : Calls Tryz.prog 49 #[dkV L.p n, .int .i64 (i : Int)] w fun e w' => ∃ u, e = .returned u ∧ Ob w' w.heap.size u (s i ++ s (i + 1)) ∧ Below w.heap.size w w' := by
  have a10 : IntKind.i64.wrap ((i : Int) + 1) = ((i + 1 : Nat) : Int) := by rw [IntKind.wrap_i64]; omega
  refine calls_of_args [dkV L.p n, .int .i64 (i : Int)] Tryz.func49 rfl 13 Tryz.ntmps49 (by show 2 ≤ 13; decide) ?_; refine EW.seq ?_; refine EW.region ?_
  obtain ⟨w1, q, r1, b1, e1, hq⟩ := box55 L.p n w
  have h1 := h.below e1
  refine WL.box rfl rfl rfl r1 ?_; refine WL.assign rfl rfl rfl ?_; refine WL.done ?_; refine EW.on ?_; refine EW.seq ?_; refine EW.ordB [(0, 0, 1), (1, 0, 0), (3, 0, 1), (4, 0, 0), (5, 0, 0), (2, 1, 1), (6, 1, 1), (7, 1, 1), (8, 0, 0)] (by kernel_rfl) rfl (by kernel_rfl) ?_; simp only [opsZ, List.getD_cons_zero, List.getD_cons_succ]; refine ZE.load rfl rfl rfl rfl sz1 (fun W hW => ld55 (b1.on (sb_of hW))) ?_; refine ZE.move rfl rfl rfl rfl sz0 ?_; refine ZE.load rfl rfl rfl rfl sz1 (fun W hW => ld55 (b1.on (sb_of hW))) ?_; refine ZE.move rfl rfl rfl rfl sz0 ?_; refine ZE.bin rfl rfl rfl rfl rfl sz0 (fun W => int_add a10 W _ _) ?_; refine ZE.callR [dkV L.p n, .int .i64 (i : Int)] (fun v W => Ob W w1.heap.size v (s i) ∧ Below w1.heap.size w1 W) enter33 rfl rfl rfl (fun _ _ h => .inr h.2) (fun W hW => (areadO n (h1.below hW) i (by omega)).mono fun e w' ⟨u, g1, g2, g3⟩ => ⟨u, g1, g2.mono hW.size, hW.trans (g3.mono hW.size)⟩) ?_
  rintro va ⟨_, _, _⟩
  refine ZE.callR [dkV L.p n, .int .i64 ((i + 1 : Nat) : Int)] (fun v W => (Has W v (s (i + 1)) ∧ Ob W w1.heap.size va (s i)) ∧ Below w1.heap.size w1 W) enter33 rfl rfl rfl (fun _ _ h => .inr h.2) (fun W hW => (areadO n (h1.below hW.2) (i + 1) hi).mono fun e w' ⟨u, g1, g2, g3⟩ => ⟨u, g1, ⟨g2.has, hW.1.below g3⟩, hW.2.trans (g3.mono hW.2.size)⟩) ?_
  rintro vb ⟨_, _, _⟩
  refine ZE.app (fun v W => Ob W w1.heap.size v (s i ++ s (i + 1)) ∧ Below w1.heap.size w1 W) rfl rfl rfl rfl (fun _ _ h => .inr h.2) (fun W hW => by
      obtain ⟨v', w', r1, r2, r3, r4⟩ := hW.1.2.push37 hW.2.size vb (s (i + 1)) hW.1.1 (by rw [h.lenS i (by omega), h.lenS (i + 1) hi]; decide) 49
      exact ⟨v', w', r1, r2, hW.2.trans (r3.below (fun k hk e => by have := hW.1.2.base k e; omega) hW.2.size)⟩) ?_
  rintro vr ⟨_, _, _⟩
  refine ZE.assign rfl rfl rfl rfl sz0 ?_
  rintro w2 ⟨o2, e2⟩
  refine EW.on ?_; refine EW.ret ?_
  exact EW.returns Tryz.results49 rfl ⟨_, rfl, o2.mono e1.size, e1.trans (e2.mono e1.size)⟩
set_option maxRecDepth 100000 in
set_option maxHeartbeats 4000000 in
theorem arepeat {w : World} {L : Lay} {N : Nat} {d : Nat → List UInt8} {left c : Nat} (n : Nat) (h : Da w L N d d [] left c) (hn : 4 * n + 1 ≤ N) (hN : N ≤ 10000) (mv : Value) (bs : List UInt8) (hv : Has w mv bs) (hvF : ∀ k, mv.ownBlock = some k → ¬ L.F k) (hl : bs.length = 512) (hnum : ∀ x ∈ numsT bs 256, x < n) (hcal : c ≤ 1000000) : Calls Tryz.prog 37 #[dkV L.p n, mv] w fun e w' => (e = .returned (.tuple #[]) ∧ ∃ L' left' c', Turn w w' L L' ∧ Da w' L' N (setS (homT n d (numsT bs 256)) 0 (bs.set 511 0)) (setS (homT n d (numsT bs 256)) 0 (bs.set 511 0)) [] left' c' ∧ c' ≤ c + 515 ∧ (left = 0 → left' = 0)) ∨ (left ≠ 0 ∧ e = .panicked sur ∧ Gone w L N (c + 515) (RpX n N d (numsT bs 256) bs) w') := by
  refine calls_of_args [dkV L.p n, mv] Tryz.func37 rfl 32 Tryz.ntmps37 (by show 2 ≤ 32; decide) ?_; refine EW.seq ?_; refine EW.region ?_
  obtain ⟨w1, q, r1, b1, e1, hq⟩ := box55 L.p n w
  have h1 := h.below e1
  refine WL.box rfl rfl rfl r1 ?_; refine WL.done ?_; refine EW.on ?_; refine EW.seq ?_; refine EW.seq ?_; refine EW.region ?_; refine WL.move rfl rfl rfl ?_; refine WL.call [mv] enter60 rfl rfl rfl (numbers_any mv bs w1 (hv.below e1) hl) ?_
  rintro _ w2 ⟨vl, rfl, oi, e2⟩
  have h2 := h1.below e2
  have e12 : Below w.heap.size w w2 := e1.trans (e2.mono e1.size)
  have hqF : ¬ L.F q := fun hF => by have := h.F _ hF; omega
  have b2 := b1.on e2
  have v2 := (hv.below e1).below e2
  have hoF : ∀ k, vl.ownBlock = some k → ¬ L.F k := fun k hk hF => by have := h1.F _ hF; have := oi.base k hk; omega
  refine ⟨_, rfl, ?_⟩; refine WL.len rfl rfl rfl (oi.len _ _) ?_; refine WL.move rfl rfl rfl ?_; refine WL.done ?_; refine EW.on ?_; refine EW.block ?_; refine EW.loop (rpE q mv vl (numsT bs 256).length) (RpA w2 L N n d left c (numsT bs 256)) (fun x => (numsT bs 256).length - x.1) (0, L) [1, 2, 7, 8, 9] rfl ⟨Turn.refl _ _, h2, Nat.zero_le _, by omega⟩ ?_
  rintro ⟨t, Li⟩ wi ⟨ti, di, hle, hlf⟩
  simp only at ti di hle hlf
  obtain ⟨S, hS⟩ : ∃ S, homT n d ((numsT bs 256).take t) = S := ⟨_, rfl⟩
  rw [hS] at di
  have hlen := numsT_len bs 256
  show EW _ _ _ _ [(1, mv), (2, .pointer (some ⟨q, 0, none⟩)), (7, vl), (8, .int .i64 ((numsT bs 256).length : Int)), (9, .int .i64 (t : Int))] _
  refine EW.seq ?_; refine EW.region ?_
  first | refine WL.bin rfl rfl rfl rfl (int_lt_t ‹_› _ _ _) ?_ | refine WL.bin rfl rfl rfl rfl (int_lt_f ‹_› _ _ _) ?_ | refine WL.bin rfl rfl rfl rfl (int_lt_d _ _ _ _ _) ?_
  refine WL.done ?_; refine EW.on ?_; refine EW.seq ?_; refine EW.cond_d rfl (fun h10 => ?_) (fun h10 => ?_)
  · refine EW.skip ?_; refine EW.on ?_; refine EW.seq ?_; refine EW.block ?_; refine EW.seq ?_
    have ht : t < (numsT bs 256).length := by omega
    have tn : IntKind.i64.wrap ((t : Int) + 1) = ((t + 1 : Nat) : Int) := by rw [IntKind.wrap_i64]; omega
    refine EW.region ?_
    obtain ⟨x, hx⟩ : ∃ x, (numsT bs 256)[t]? = some x := ⟨_, List.getElem?_eq_getElem ht⟩
    have hxm := List.mem_of_getElem? hx
    have hxn := hnum x hxm
    have bi := b2.fx ti.fx hqF
    obtain ⟨hnw, hnw2⟩ := psN_new (pl_home n) (numsT_nodup bs 256) hx
    have hpl := psN_len (gH n) ((numsT bs 256).take t)
    rw [List.length_take] at hpl
    obtain ⟨ad, ix, lx⟩ := (oi.fx ti.fx hoF).item hx
    refine WL.index rfl rfl rfl rfl (ix _) ?_; refine WL.load rfl rfl rfl lx ?_; refine WL.assign rfl rfl rfl ?_; refine WL.done ?_; refine EW.on ?_
    refine EW.ordPB [(0, 0, 1), (1, 0, 1), (2, 0, 0), (4, 0, 1), (5, 0, 1), (6, 0, 0), (3, 1, 1), (7, 1, 1), (8, 1, 1), (9, 1, 0)] (fun ch W => ch = sur ∧ (left - 2 * t = 1 ∨ left - 2 * t = 2) ∧ Gone wi Li N (c + 2 * t + 2) (CrO (fun j => j = 1 + 2 * (n + x) ∨ j = 1 + 2 * (n + x) + 1) N d S) W) (fun ch W h => by
      obtain ⟨rfl, h⟩ := h
      repeat (first | refine pp_then ?_ | refine pp_block ?_)
      exact pp_post (.inr ⟨by omega, rfl, ((h.2.from ti).pre e12).mono (by omega) fun d' hl' hc => RpX.a fun i hi hu => hc.un hi (fun e => hu ⟨x, hxm, e⟩) (by rw [← hS]; exact homT_other n i _ _ (fun h => hu h.take))⟩)) (by kernel_rfl) rfl (by kernel_rfl) ?_
    simp only [opsZ, List.getD_cons_zero, List.getD_cons_succ]; refine ZE.load rfl rfl rfl rfl sz1 (fun W hW => ld55 (bi.on (sb_of hW))) ?_; refine ZE.load rfl rfl rfl rfl sz1 (fun W hW => ld55 (bi.on (sb_of hW))) ?_; refine ZE.move rfl rfl rfl rfl sz0 ?_; refine ZE.load rfl rfl rfl rfl sz1 (fun W hW => ld55 (bi.on (sb_of hW))) ?_; refine ZE.load rfl rfl rfl rfl sz1 (fun W hW => ld55 (bi.on (sb_of hW))) ?_; refine ZE.move rfl rfl rfl rfl sz0 ?_; refine ZE.callR [dkV L.p n, .int .i64 (x : Int)] (fun v W => v = .int .i64 ((1 + 2 * (n + x) : Nat) : Int) ∧ Below wi.heap.size wi W) enter50 rfl rfl rfl (fun _ _ h => .inr h.2) (fun W hW => (home_any L.p n x W (by omega)).mono fun e w' ⟨g1, g2⟩ => ⟨_, g1, rfl, hW.trans (g2.mono hW.size)⟩) ?_
    rintro _ ⟨_, rfl, _⟩
    refine ZE.callR [dkV L.p n, .int .i64 (x : Int)] (fun v W => v = .int .i64 ((1 + 2 * x : Nat) : Int) ∧ Below wi.heap.size wi W) enter63 rfl rfl rfl (fun _ _ h => .inr h.2) (fun W hW => (slot_any L.p n x W (by omega)).mono fun e w' ⟨g1, g2⟩ => ⟨_, g1, rfl, hW.2.trans (g2.mono hW.2.size)⟩) ?_
    rintro _ ⟨_, rfl, _⟩
    refine ZE.callR [dkV L.p n, .int .i64 ((1 + 2 * x : Nat) : Int)] (fun v W => Ob W wi.heap.size v (S (1 + 2 * x) ++ S (1 + 2 * x + 1)) ∧ Below wi.heap.size wi W) enter49 rfl rfl rfl (fun _ _ h => .inr h.2) (fun W hW => by rw [← ti.p]; exact (areadPage n (di.below hW.2) (1 + 2 * x) (by omega) (by omega)).mono fun e w' ⟨u, g1, g2, g3⟩ => ⟨u, g1, g2.mono hW.2.size, hW.2.trans (g3.mono hW.2.size)⟩) ?_
    rintro vp ⟨_, _, _⟩
    refine ZE.callRP [dkV L.p n, .int .i64 ((1 + 2 * (n + x) : Nat) : Int), vp] (fun v W => v = .tuple #[] ∧ left - 2 * t ≠ 1 ∧ left - 2 * t ≠ 2 ∧ ∃ L', Turn wi W Li L' ∧ Da W L' N d (hom1 n S x) (psN (gH n) ((numsT bs 256).take t) ++ [1 + 2 * (n + x)] ++ [1 + 2 * (n + x) + 1]) (left - 2 * t - 2) (c + 2 * t + 2)) enter62 rfl rfl rfl (fun _ _ _ => .inl rfl) (fun W hW => by
          rw [← ti.p]
          have l1 := di.lenS (1 + 2 * x) (by omega)
          have l2 := di.lenS (1 + 2 * x + 1) (by omega)
          refine (awritePage n (di.below hW.2) (1 + 2 * (n + x)) (by omega) hnw hnw2 (by omega) vp _ (by rw [List.length_append, l1, l2]) hW.1.has (fun k hk hF => by have := di.F _ hF; have := hW.1.base k hk; omega) (by omega) (by omega)).mono fun e w' h => ?_
          rcases h with ⟨g0, g00, g1, L', g2, g3⟩ | ⟨g0, g1, g2⟩
          · rw [List.take_left' l1, List.drop_left' l1] at g3
            exact .inl ⟨_, g1, rfl, g0, g00, L', g2.pre hW.2, g3⟩
          · exact .inr ⟨_, g1, rfl, g0, g2.pre hW.2⟩) ?_
    rintro _ ⟨_, rfl, _⟩
    rintro w4 ⟨_, g4, g42, L4, t4, d4⟩
    refine pn_block ?_; refine EW.on ?_; refine EW.region ?_; refine WL.bin rfl rfl rfl rfl (int_add ‹_› _ _ _) ?_; refine WL.move rfl rfl rfl ?_; refine WL.done ?_; refine EW.again (E := rpE q mv vl (numsT bs 256).length) (R := RpA w2 L N n d left c (numsT bs 256)) (m := fun x => (numsT bs 256).length - x.1) (x := (t, Li)) (t + 1, L4) [1, 2, 7, 8, 9] rfl ⟨ti.trans t4, by rw [homT_snoc n d _ t x hx, hS, psN_snoc _ hx]; exact d4, by show t + 1 ≤ _; omega, by show _ ∨ 2 * (t + 1) < _; omega⟩ (by show _ - (t + 1) < _ - t; omega)
  · refine EW.exit ?_; refine px_then ?_; refine px_then ?_; refine px_block ?_; refine EW.on ?_; refine EW.seq ?_
    have hte : t = (numsT bs 256).length := by omega
    have bi := b2.fx ti.fx hqF
    refine EW.region ?_; refine WL.load rfl rfl rfl (ld55 bi) ?_; refine WL.callP [dkV L.p n] enter57 rfl rfl rfl (by rw [← ti.p]; exact aflush n di (by omega)) ?_
    rintro _ w6 (⟨g6, rfl, L6, t6, d6⟩ | ⟨g0, rfl, go⟩)
    rotate_left
    · refine .inr ⟨_, rfl, ?_⟩
      repeat (first | refine pp_then ?_ | refine pp_block ?_)
      exact pp_post (.inr ⟨by omega, rfl, ((go.from ti).pre e12).mono (by omega) fun d' hl' hc => RpX.a fun i hi hu => (hc.o (U := UsN (gH n) (numsT bs 256)) (s := d) (fun j _ hj => by rw [← hS]; exact homT_other n j _ _ (fun h => hj h.take))).un hi hu rfl⟩)
    have t06 := ti.trans t6
    have b6 := b2.fx t06.fx hqF
    have v6 := v2.fx t06.fx hvF
    rw [← hS, hte, List.take_length] at d6
    have hD0 : homT n d (numsT bs 256) 0 = d 0 := homT_other n 0 _ _ (no_zeroN (gH n) (fun m => by show 0 < 1 + 2 * (n + m); omega) _)
    refine .inl ⟨_, rfl, ?_⟩; refine WL.done ?_; refine EW.on ?_; refine EW.seq ?_
    refine EW.ordPB [(0, 0, 1), (1, 0, 0), (2, 1, 1), (3, 1, 0)] (fun ch W => ch = sur ∧ left - 2 * (numsT bs 256).length - 1 = 1 ∧ Gone w6 L6 N (c + 2 * (numsT bs 256).length + 1 + 1) (Cr N (homT n d (numsT bs 256)) (setS (homT n d (numsT bs 256)) 0 (bs.set 511 0))) W) (fun ch W h => by
      obtain ⟨rfl, h⟩ := h
      repeat (first | refine pp_then ?_ | refine pp_block ?_)
      exact pp_post (.inr ⟨by omega, rfl, ((h.2.from t06).pre e12).mono (by omega) fun d' hl' hc => RpX.b (fun i hi hu => (hc.o (U := (· = 0)) (s := homT n d (numsT bs 256)) (fun j _ hj => setS_ne _ _ hj)).un hi hu rfl) (by obtain ⟨k, hk, e⟩ := hc 0 (by omega); rw [setS_eq, hD0] at e; exact ⟨k, hk, e⟩)⟩)) (by kernel_rfl) rfl (by kernel_rfl) ?_
    simp only [opsZ, List.getD_cons_zero, List.getD_cons_succ]; refine ZE.load rfl rfl rfl rfl sz1 (fun W hW => ld55 (b6.on (sb_of hW))) ?_; refine ZE.move rfl rfl rfl rfl sz0 ?_; refine ZE.callR [mv] (fun v W => Ob W w6.heap.size v (bs.set 511 0) ∧ Below w6.heap.size w6 W) enter65 rfl rfl rfl (fun _ _ h => .inr h.2) (fun W hW => (off_any mv bs W (v6.below hW) hl).mono fun e w' ⟨u, g1, g2, g3⟩ => ⟨u, g1, g2.mono hW.size, hW.trans (g3.mono hW.size)⟩) ?_
    rintro vo ⟨_, _, _⟩
    refine ZE.callRP [dkV L.p n, .int .i64 ((0 : Nat) : Int), vo] (fun v W => v = .tuple #[] ∧ left - 2 * (numsT bs 256).length - 1 ≠ 1 ∧ ∃ L', Turn w6 W L6 L' ∧ Da W L' N (homT n d (numsT bs 256)) (setS (homT n d (numsT bs 256)) 0 (bs.set 511 0)) ([] ++ [0]) (left - 2 * (numsT bs 256).length - 1 - 1) (c + 2 * (numsT bs 256).length + 1 + 1)) enter64 rfl rfl rfl (fun _ _ _ => .inl rfl) (fun W hW => by
          rw [← t06.p]
          refine (awrite n (d6.below hW.2) 0 (by omega) (by simp) vo _ (by simp [hl]) hW.1.has (by simp) (by omega)).mono fun e w' h => ?_
          rcases h with ⟨g0, g1, L', g2, g3⟩ | ⟨g0, g1, g2⟩
          · exact .inl ⟨_, g1, rfl, g0, L', g2.pre hW.2, g3⟩
          · exact .inr ⟨_, g1, rfl, g0, g2.pre hW.2⟩) ?_
    rintro _ ⟨_, rfl, _⟩
    rintro w7 ⟨_, g7, L7, t7, d7⟩
    have t07 := t06.trans t7
    have b7 := b2.fx t07.fx hqF
    refine EW.on ?_; refine EW.region ?_; refine WL.load rfl rfl rfl (ld55 b7) ?_; refine WL.callP [dkV L.p n] enter57 rfl rfl rfl (by rw [← t07.p]; exact aflush n d7 (by omega)) ?_
    rintro _ w8 (⟨g8, rfl, L8, t8, d8⟩ | ⟨g0, rfl, go⟩)
    rotate_left
    · refine .inr ⟨_, rfl, ?_⟩
      repeat (first | refine pp_then ?_ | refine pp_block ?_)
      exact pp_post (.inr ⟨by omega, rfl, ((go.from t07).pre e12).mono (by omega) fun d' hl' hc => RpX.b (fun i hi hu => (hc.o (U := (· = 0)) (s := homT n d (numsT bs 256)) (fun j _ hj => setS_ne _ _ hj)).un hi hu rfl) (by obtain ⟨k, hk, e⟩ := hc 0 (by omega); rw [setS_eq, hD0] at e; exact ⟨k, hk, e⟩)⟩)
    refine .inl ⟨_, rfl, ?_⟩; refine WL.done ?_
    exact EW.falls Tryz.results37 (.inl ⟨rfl, L8, _, _, (t07.trans t8).pre e12, d8, by omega, fun h0 => by omega⟩)
end Go.Proofs.YtmbgeojjklboeaaGreatDoor

set_option linter.unusedVariables false
set_option linter.unusedSimpArgs false
namespace Go.Proofs.YtmbgeojjklboeaaGreatDoor
open Go.RowKit

theorem Da.congr {w : World} {L : Lay} {N : Nat} {d s d2 s2 : Nat → List UInt8} {ps : List Nat} {left c : Nat} (h : Da w L N d s ps left c) (hd : ∀ i, i < N → d i = d2 i) (hs : ∀ i, i < N → s i = s2 i) : Da w L N d2 s2 ps left c := by
  obtain ⟨D, h1, h2, h3, h4, h5, h6, h7⟩ := h.ex
  exact ⟨⟨D, h1, h2, h3, h4, fun i hi => (h5 i hi).trans (hd i hi), fun i hi => (h6 i hi).trans (hs i hi), h7⟩, h.nd, h.lt⟩
theorem Da.nop {w : World} {L : Lay} {N : Nat} {d s : Nat → List UInt8} {left c : Nat} (h : Da w L N d s [] left c) (i : Nat) (hi : i < N) : s i = d i := by
  obtain ⟨D, h1, h2, h3, h4, h5, h6, h7, h8⟩ := h.ex
  rw [← h5 i hi, ← h6 i hi, readB_sec]
  have : D.pen = [] := by simpa using h7
  rw [this, nw_nil, if_pos rfl]
structure Wg where
  t : Nat
  L : Lay
  s : Nat → List UInt8
  ps : List Nat
  b : Bool
structure WgI (N : Nat) (d s : Nat → List UInt8) (ps : List Nat) (left i : Nat) (b : Bool) : Prop where
  v : ∀ j, j < N → j < i → s j = zS
  n : ∀ j, j < N → i ≤ j → s j = d j
  p : ∀ x ∈ ps, x < i
  f : b = false → ps = []
  lf : left = 0 ∨ ps.length < left
  pl : ps.length ≤ i
def goE (q qs : Nat) (x : Wg) : List (Nat × Value) := [(2, .pointer (some ⟨q, 0, none⟩)), (4, .bool x.b), (8, .slice (some ⟨qs, 0, none⟩) 1 1), (9, .int .i64 1), (10, .int .i64 (x.t : Int))]
structure GoR (w1 : World) (L : Lay) (N : Nat) (d : Nat → List UInt8) (left c e : Nat) (x : Wg) (W : World) : Prop where
  t : Turn w1 W L x.L
  da : Da W x.L N d x.s x.ps (left - x.ps.length) (c + x.ps.length)
  le : x.t ≤ 1
  i : WgI N d x.s x.ps left (if x.t = 0 then 0 else e) x.b
def gnE (q qs q6 : Nat) (x : Wg) : List (Nat × Value) := [(2, .pointer (some ⟨q, 0, none⟩)), (4, .bool x.b), (6, .pointer (some ⟨q6, 0, none⟩)), (7, .int .i64 (x.t : Int)), (8, .slice (some ⟨qs, 0, none⟩) 1 1), (9, .int .i64 1), (10, .int .i64 (0 : Nat))]
structure GnR (w4 : World) (Li : Lay) (N : Nat) (d : Nat → List UInt8) (left c e : Nat) (x : Wg) (W : World) : Prop where
  tu : Turn w4 W Li x.L
  da : Da W x.L N d x.s x.ps (left - x.ps.length) (c + x.ps.length)
  le : x.t ≤ e
  i : WgI N d x.s x.ps left x.t x.b
/-- What may be behind a crash in a wiping. -/
structure WiX (N e : Nat) (d d' : Nat → List UInt8) : Prop where
  u : Un (· < e) N d d'
  t : Tn zS (d 0) (d' 0)
theorem wig_crash {N e i left : Nat} {d s d' : Nat → List UInt8} {ps : List Nat} {b : Bool} (h : WgI N d s ps left i b) (hi : i < e) (hN : i < N) (hc : Cr N d (setS s i zS) d') : WiX N e d d' := by
  refine ⟨fun j hj hu => ?_, ?_⟩
  · have hu : ¬ j < e := hu
    obtain ⟨k, hk, e2⟩ := hc j hj
    rw [e2, setS_ne _ _ (by omega), h.n j hj (by omega), List.take_append_drop]
  · obtain ⟨k, hk, e2⟩ := hc 0 (by omega)
    refine ⟨k, hk, ?_⟩
    rw [e2]
    by_cases h0 : i = 0
    · rw [h0, setS_eq]
    · rw [setS_ne _ _ (by omega), h.v 0 (by omega) (by omega)]
theorem wig_flush {N e left : Nat} {d s d' : Nat → List UInt8} {ps : List Nat} {b : Bool} (h : WgI N d s ps left e b) (he : 0 < e) (hN : 0 < N) (hc : Cr N d s d') : WiX N e d d' := by
  refine ⟨fun j hj hu => ?_, ?_⟩
  · have hu : ¬ j < e := hu
    obtain ⟨k, hk, e2⟩ := hc j hj
    rw [e2, h.n j hj (by omega), List.take_append_drop]
  · obtain ⟨k, hk, e2⟩ := hc 0 hN
    exact ⟨k, hk, by rw [e2, h.v 0 hN he]⟩
theorem wig_all {N e left : Nat} {d s : Nat → List UInt8} {ps : List Nat} {b : Bool} (h : WgI N d s ps left e b) (j : Nat) (hj : j < N) : s j = wipS [(0, e)] d j := by
  unfold wipS
  have hcov : covB [(0, e)] j = decide (j < e) := by simp [covB]
  rw [hcov]
  by_cases hje : j < e
  · rw [if_pos (by simpa using hje)]; exact h.v j hj hje
  · rw [if_neg (by simpa using hje)]; exact h.n j hj (by omega)
set_option maxRecDepth 100000 in
set_option maxHeartbeats 4000000 in
theorem awipe {w : World} {L : Lay} {N : Nat} {d : Nat → List UInt8} {left c : Nat} (n : Nat) (h : Da w L N d d [] left c) (hN : N ≤ 10000) (qs e : Nat) (hs : Blk w qs ([(0, e)].flatMap fun x => spC x.1 x.2) 85) (hsF : ¬ L.F qs) (he : e ≤ N) (he0 : 0 < e) (hcal : c ≤ 1000000) : Calls Tryz.prog 38 #[dkV L.p n, .slice (some ⟨qs, 0, none⟩) 1 1] w fun x w' => (x = .returned (.tuple #[]) ∧ ∃ L' left' c', Turn w w' L L' ∧ Da w' L' N (wipS [(0, e)] d) (wipS [(0, e)] d) [] left' c' ∧ c' ≤ c + e + 1 ∧ (left = 0 → left' = 0)) ∨ (left ≠ 0 ∧ x = .panicked sur ∧ Gone w L N (c + e + 1) (WiX N e d) w') := by
  refine calls_of_args [dkV L.p n, .slice (some ⟨qs, 0, none⟩) 1 1] Tryz.func38 rfl 34 Tryz.ntmps38 (by show 2 ≤ 34; decide) ?_; refine EW.seq ?_; refine EW.region ?_
  obtain ⟨w1, q, r1, b1, e1, hq⟩ := box55 L.p n w
  have h1 := h.below e1
  have s1 := hs.on e1
  have hqF : ¬ L.F q := fun hF => by have := h.F _ hF; omega
  refine WL.box rfl rfl rfl r1 ?_; refine WL.done ?_; refine EW.on ?_; refine EW.seq ?_; refine EW.region ?_; refine WL.assign rfl rfl rfl ?_; refine WL.done ?_; refine EW.on ?_; refine EW.seq ?_; refine EW.seq ?_; refine EW.region ?_; refine WL.move rfl rfl rfl ?_; refine WL.len rfl rfl rfl (len99 _ _ _ _ _) ?_; refine WL.move rfl rfl rfl ?_; refine WL.done ?_; refine EW.on ?_; refine EW.block ?_; refine EW.loop (goE q qs) (GoR w1 L N d left c e) (fun x => 1 - x.t) ⟨0, L, d, [], false⟩ [2, 4, 8, 9, 10] rfl ⟨Turn.refl _ _, h1, Nat.zero_le _, ⟨fun j hj hji => absurd hji (Nat.not_lt_zero _), fun _ _ _ => rfl, fun x hx => (by simp at hx), fun _ => rfl, by show left = 0 ∨ 0 < left; omega, Nat.zero_le _⟩⟩ ?_
  rintro ⟨t, Li, si, pi, bi⟩ wi ⟨ti, di, hle, ii⟩
  simp only at ti di hle ii
  show EW _ _ _ _ [(2, .pointer (some ⟨q, 0, none⟩)), (4, .bool bi), (8, .slice (some ⟨qs, 0, none⟩) 1 1), (9, .int .i64 ((1 : Nat) : Int)), (10, .int .i64 (t : Int))] _
  refine EW.seq ?_; refine EW.region ?_
  first | refine WL.bin rfl rfl rfl rfl (int_lt_t ‹_› _ _ _) ?_ | refine WL.bin rfl rfl rfl rfl (int_lt_f ‹_› _ _ _) ?_ | refine WL.bin rfl rfl rfl rfl (int_lt_d _ _ _ _ _) ?_
  refine WL.done ?_; refine EW.on ?_; refine EW.seq ?_; refine EW.cond_d rfl (fun h11 => ?_) (fun h11 => ?_)
  · refine EW.skip ?_; refine EW.on ?_; refine EW.seq ?_; refine EW.block ?_; refine EW.seq ?_
    have ht0 : t = 0 := by omega
    subst ht0
    rw [if_pos rfl] at ii
    have tn : IntKind.i64.wrap (((0 : Nat) : Int) + 1) = ((1 : Nat) : Int) := by rw [IntKind.wrap_i64]; omega
    refine EW.region ?_; refine WL.index rfl rfl rfl rfl (idx99 qs 0 1 (by decide) _) ?_; refine WL.load rfl rfl rfl (ld63 (t := 0) (sp := [(0, e)]) (x := (0, e)) (s1.fx ti.fx hsF) rfl) ?_
    obtain ⟨w3, q6, r3, b3, e3, hq6⟩ := new63 wi
    refine WL.new rfl rfl r3 ?_
    obtain ⟨w4, s4, b4, x4⟩ := st63 (a := 0) (b := e) b3
    have e4 : Below wi.heap.size wi w4 := e3.trans (x4.below (fun k hk e => by omega) e3.size)
    have h6F : ¬ Li.F q6 := fun hF => by have := di.F _ hF; omega
    refine WL.store rfl rfl rfl s4 ?_; refine WL.done ?_; refine EW.on ?_; refine EW.seq ?_; refine EW.region ?_; refine WL.field rfl rfl rfl (fld63_0 q6 _) ?_; refine WL.load rfl rfl rfl (ldsp0 b4) ?_; refine WL.assign rfl rfl rfl ?_; refine WL.done ?_; refine EW.on ?_; refine EW.block ?_; refine EW.loop (gnE q qs q6) (GnR w4 Li N d left c e) (fun x => e - x.t) ⟨0, Li, si, pi, bi⟩ [2, 4, 6, 7, 8, 9, 10] rfl ⟨Turn.refl _ _, di.below e4, Nat.zero_le _, ii⟩ ?_
    rintro ⟨i, Lj, sj, pj, bjj⟩ wj ⟨tj, dj, hhi, ij⟩
    simp only at tj dj hhi ij
    show EW _ _ _ _ [(2, .pointer (some ⟨q, 0, none⟩)), (4, .bool bjj), (6, .pointer (some ⟨q6, 0, none⟩)), (7, .int .i64 (i : Int)), (8, .slice (some ⟨qs, 0, none⟩) 1 1), (9, .int .i64 ((1 : Nat) : Int)), (10, .int .i64 ((0 : Nat) : Int))] _
    refine EW.seq ?_; refine EW.seq ?_; refine EW.region ?_; refine WL.move rfl rfl rfl ?_; refine WL.field rfl rfl rfl (fld63_1 q6 _) ?_; refine WL.load rfl rfl rfl (ldsp1 (b4.fx tj.fx h6F)) ?_; refine WL.bin rfl rfl rfl rfl (int_lt_d _ _ _ _ _) ?_; refine WL.done ?_; refine EW.on ?_; refine EW.cond_d rfl (fun h19 => ?_) (fun h19 => ?_)
    · refine EW.skip ?_; refine EW.on ?_; refine EW.seq ?_; refine EW.block ?_; refine EW.seq ?_
      have hlt : i < e := by omega
      have hiN : i < N := by omega
      have tn7 : IntKind.i64.wrap ((i : Int) + 1) = ((i + 1 : Nat) : Int) := by rw [IntKind.wrap_i64]; omega
      have bj := (b1.fx ti.fx hqF).on e4 |>.fx tj.fx (fun hF => (ti.own q hF).elim hqF (fun hh => by have := b1.lt; omega))
      refine EW.region ?_; refine WL.load rfl rfl rfl (ld55 bj) ?_; refine WL.move rfl rfl rfl ?_; refine WL.call [dkV L.p n, .int .i64 (i : Int)] enter33 rfl rfl rfl (by rw [← ti.p, ← tj.p]; exact areadO n dj i hiN) ?_
      rintro _ w5 ⟨u5, rfl, hu5, e5⟩
      refine ⟨_, rfl, ?_⟩; refine WL.call [u5] enter61 rfl rfl rfl (zeros_any _ _ w5 hu5.has (by rw [dj.lenS i hiN]; decide)) ?_
      rintro _ w6 ⟨rfl, hz6⟩
      rw [hz6]
      have d5 := dj.below e5
      refine ⟨_, rfl, ?_⟩; refine WL.un rfl rfl rfl (not_t _ _) ?_; refine WL.done ?_; refine EW.on ?_; refine EW.cond_b rfl (fun hc => ?_) (fun hc => ?_)
      · have hz26 : ¬ zB (sj i) = true := by simpa using hc
        refine EW.seq ?_; refine EW.region ?_; refine WL.load rfl rfl rfl (ld55 (bj.on e5)) ?_; refine WL.move rfl rfl rfl ?_; refine WL.callP [dkV L.p n, .int .i64 (i : Int)] enter66 rfl rfl rfl (by rw [← ti.p, ← tj.p]; exact ablank n d5 i hiN (fun hm => by have := ij.p i hm; omega) (by have := ij.pl; omega) (by have := ij.pl; omega)) ?_
        rintro _ w7 (⟨g7, rfl, L7, t7, d7⟩ | ⟨g0, rfl, go⟩)
        rotate_left
        · refine .inr ⟨_, rfl, ?_⟩
          repeat (first | refine pp_then ?_ | refine pp_block ?_)
          exact pp_post (.inr ⟨by omega, rfl, ((((((go.pre e5).from tj).pre e4).from ti).pre e1)).mono (by have := ij.pl; omega) fun d' hl' hc => wig_crash ij hlt hiN hc⟩)
        refine .inl ⟨_, rfl, ?_⟩; refine WL.done ?_; refine EW.on ?_; refine EW.region ?_; refine WL.assign rfl rfl rfl ?_; refine WL.done ?_; refine pn_block ?_; refine EW.on ?_; refine EW.region ?_; refine WL.move rfl rfl rfl ?_; refine WL.bin rfl rfl rfl rfl (int_add ‹_› _ _ _) ?_; refine WL.assign rfl rfl rfl ?_; refine WL.done ?_; refine EW.again (E := gnE q qs q6) (R := GnR w4 Li N d left c e) (m := fun x => e - x.t) (x := ⟨i, Lj, sj, pj, bjj⟩) ⟨i + 1, L7, setS sj i zS, pj ++ [i], true⟩ [2, 4, 6, 7, 8, 9, 10] rfl ⟨tj.trans (t7.pre e5), by rw [List.length_append, show left - (pj.length + [i].length) = left - pj.length - 1 from rfl, show c + (pj.length + [i].length) = c + pj.length + 1 from rfl]; exact d7, by show i + 1 ≤ e; omega, ⟨fun j hj hji => ?_, fun j hj hji => ?_, fun x hx => ?_, fun hb => (by cases hb), ?_, by rw [List.length_append]; exact Nat.succ_le_succ ij.pl⟩⟩ (by show e - (i + 1) < e - i; omega)
        · show setS sj i zS j = zS
          by_cases e2 : j = i
          · rw [e2, setS_eq]
          · rw [setS_ne _ _ e2]; exact ij.v j hj (by have : j < i + 1 := hji; omega)
        · have hji : i + 1 ≤ j := hji
          show setS sj i zS j = d j
          rw [setS_ne _ _ (by omega)]; exact ij.n j hj (by omega)
        · show x < i + 1
          rcases List.mem_append.1 hx with hx | hx
          · have := ij.p x hx; omega
          · rw [List.mem_singleton.1 hx]; omega
        · have := ij.lf
          rw [List.length_append]
          show left = 0 ∨ pj.length + 1 < left
          omega
      · have hz26 : zB (sj i) = true := by simpa using hc
        refine EW.skip ?_; refine pn_block ?_; refine EW.on ?_; refine EW.region ?_; refine WL.move rfl rfl rfl ?_; refine WL.bin rfl rfl rfl rfl (int_add ‹_› _ _ _) ?_; refine WL.assign rfl rfl rfl ?_; refine WL.done ?_; refine EW.again (E := gnE q qs q6) (R := GnR w4 Li N d left c e) (m := fun x => e - x.t) (x := ⟨i, Lj, sj, pj, bjj⟩) ⟨i + 1, Lj, sj, pj, bjj⟩ [2, 4, 6, 7, 8, 9, 10] rfl ⟨tj.trans ((Turn.refl _ _).pre e5), d5, by show i + 1 ≤ e; omega, ⟨fun j hj hji => ?_, fun j hj hji => ij.n j hj (by have : i + 1 ≤ j := hji; omega), fun x hx => by have := ij.p x hx; show x < i + 1; omega, ij.f, ij.lf, by have := ij.pl; show pj.length ≤ i + 1; omega⟩⟩ (by show e - (i + 1) < e - i; omega)
        by_cases e2 : j = i
        · rw [e2]; exact zB_is hz26 (dj.lenS i hiN)
        · exact ij.v j hj (by have : j < i + 1 := hji; omega)
    · refine EW.exit ?_; refine px_then ?_; refine px_then ?_; refine px_block ?_; refine pn_block ?_; refine EW.on ?_
      have hie : i = e := by omega
      refine EW.region ?_; refine WL.bin rfl rfl rfl rfl (int_add ‹_› _ _ _) ?_; refine WL.move rfl rfl rfl ?_; refine WL.done ?_; refine EW.again (E := goE q qs) (R := GoR w1 L N d left c e) (m := fun x => 1 - x.t) (x := ⟨0, Li, si, pi, bi⟩) ⟨1, Lj, sj, pj, bjj⟩ [2, 4, 8, 9, 10] rfl ⟨ti.trans (tj.pre e4), dj, Nat.le_refl _, by show WgI N d sj pj left e bjj; rw [← hie]; exact ij⟩ (by show 1 - 1 < 1 - 0; decide)
  · refine EW.exit ?_; refine px_then ?_; refine px_then ?_; refine px_block ?_; refine EW.on ?_; refine EW.seq ?_
    have ht1 : t = 1 := by omega
    subst ht1
    rw [if_neg (by decide)] at ii
    refine EW.region ?_; refine WL.move rfl rfl rfl ?_; refine WL.done ?_; refine EW.on ?_; refine EW.cond_b rfl (fun hc => ?_) (fun hc => ?_)
    · refine EW.region ?_; refine WL.load rfl rfl rfl (ld55 (b1.fx ti.fx hqF)) ?_; refine WL.callP [dkV L.p n] enter57 rfl rfl rfl (by rw [← ti.p]; exact aflush n di (by have := ii.pl; omega)) ?_
      rintro _ w8 (⟨g8, rfl, L8, t8, d8⟩ | ⟨g0, rfl, go⟩)
      rotate_left
      · refine .inr ⟨_, rfl, ?_⟩
        repeat (first | refine pp_then ?_ | refine pp_block ?_)
        exact pp_post (.inr ⟨by omega, rfl, (((go.from ti).pre e1)).mono (by have := ii.pl; omega) fun d' hl' hc => wig_flush ii he0 (by omega) hc⟩)
      refine .inl ⟨_, rfl, ?_⟩; refine WL.done ?_
      exact EW.falls Tryz.results38 (.inl ⟨rfl, L8, _, _, (ti.trans t8).pre e1, d8.congr (fun j hj => wig_all ii j hj) (fun j hj => wig_all ii j hj), by have := ii.pl; omega, fun h0 => by omega⟩)
    · refine EW.skip ?_
      have hp0 := ii.f hc
      subst hp0
      exact EW.falls Tryz.results38 (.inl ⟨rfl, Li, _, _, ti.pre e1, di.congr (fun j hj => by rw [← di.nop j hj]; exact wig_all ii j hj) (fun j hj => wig_all ii j hj), by show c + 0 ≤ _; omega, fun h0 => by show left - 0 = 0; omega⟩)
end Go.Proofs.YtmbgeojjklboeaaGreatDoor
