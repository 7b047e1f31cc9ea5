import Derived.Test.YtmbgeojjklboeaaGreatDoorQcG
import Derived.Test.YtmbgeojjklboeaaGreatDoorXb
set_option linter.unusedVariables false
set_option linter.unusedSimpArgs false
namespace Go.Proofs.YtmbgeojjklboeaaGreatDoor
open Go.RowKit

/-- The sectors of these pages. -/
def Us (g : Nat → Nat) (l : List Pw) (i : Nat) : Prop := ∃ x ∈ l, i = g x.n ∨ i = g x.n + 1
def psL (g : Nat → Nat) (l : List Pw) : List Nat := l.flatMap fun x => [g x.n, g x.n + 1]
theorem mem_psL {g : Nat → Nat} {l : List Pw} {i : Nat} : i ∈ psL g l ↔ Us g l i := by simp [psL, Us]
theorem psL_snoc (g : Nat → Nat) {l : List Pw} {t : Nat} {x : Pw} (h : l[t]? = some x) : psL g (l.take (t + 1)) = psL g (l.take t) ++ [g x.n] ++ [g x.n + 1] := by
  rw [List.take_add_one, h]
  simp [psL, List.flatMap_append]
theorem psL_len (g : Nat → Nat) (l : List Pw) : (psL g l).length = 2 * l.length := by
  induction l with
  | nil => rfl
  | cons a r ih => simp only [psL, List.flatMap_cons, List.length_append, List.length_cons, List.length_nil] at ih ⊢; omega
theorem take_ne {l : List Pw} (hd : (l.map Pw.n).Nodup) {t : Nat} {x y : Pw} (h : l[t]? = some x) (hy : y ∈ l.take t) : y.n ≠ x.n := fun e => by
  have htl := (List.getElem?_eq_some_iff.1 h).1
  have e2 : l.map Pw.n = (l.take t).map Pw.n ++ (x.n :: (l.drop (t + 1)).map Pw.n) := by
    rw [← List.map_cons, ← List.map_append, show x :: l.drop (t + 1) = l.drop t from by
      rw [List.drop_eq_getElem_cons htl]
      congr 1
      exact (Option.some.inj (h.symm.trans (List.getElem?_eq_getElem _))), List.take_append_drop]
  rw [e2, List.nodup_append] at hd
  exact hd.2.2 y.n (List.mem_map.2 ⟨y, hy, rfl⟩) x.n (by simp) e
/-- Pages' places: two sectors each, all unlike. -/
structure Pl (g : Nat → Nat) : Prop where
  ne : ∀ a b, a ≠ b → g a ≠ g b ∧ g a ≠ g b + 1 ∧ g a + 1 ≠ g b
theorem pl_slot : Pl (fun m => 1 + 2 * m) := ⟨fun a b h => by omega⟩
theorem pl_home (n : Nat) : Pl (fun m => 1 + 2 * (n + m)) := ⟨fun a b h => by omega⟩
theorem psL_new {g : Nat → Nat} (hg : Pl g) {l : List Pw} (hd : (l.map Pw.n).Nodup) {t : Nat} {x : Pw} (h : l[t]? = some x) : g x.n ∉ psL g (l.take t) ∧ g x.n + 1 ∉ psL g (l.take t) := by
  constructor
  · rw [mem_psL]
    rintro ⟨y, hy, e⟩
    have := hg.ne x.n y.n (fun e => take_ne hd h hy e.symm)
    omega
  · rw [mem_psL]
    rintro ⟨y, hy, e⟩
    have := hg.ne x.n y.n (fun e => take_ne hd h hy e.symm)
    have := hg.ne y.n x.n (take_ne hd h hy)
    omega
theorem Us.take {g : Nat → Nat} {l : List Pw} {t i : Nat} (h : Us g (l.take t) i) : Us g l i := by
  obtain ⟨x, hx, e⟩ := h
  exact ⟨x, List.mem_of_mem_take hx, e⟩
theorem pgf_other (g : Nat → Nat) (j : Nat) : ∀ (l : List Pw) (s : Nat → List UInt8), ¬ Us g l j → (l.foldl (fun s x => pg2 s (g x.n) x.b) s) j = s j
  | [], s, _ => rfl
  | a :: r, s, h => by
    rw [List.foldl_cons, pgf_other g j r _ (fun ⟨x, hx, e⟩ => h ⟨x, List.mem_cons_of_mem _ hx, e⟩)]
    have h1 : j ≠ g a.n := fun e => h ⟨a, List.mem_cons_self, .inl e⟩
    have h2 : j ≠ g a.n + 1 := fun e => h ⟨a, List.mem_cons_self, .inr e⟩
    unfold pg2
    rw [setS_ne _ _ h2, setS_ne _ _ h1]
theorem slf_other (j : Nat) (l : List Pw) (s : Nat → List UInt8) (h : ¬ Us (fun m => 1 + 2 * m) l j) : (l.foldl sl1 s) j = s j := pgf_other (fun m => 1 + 2 * m) j l s h
theorem hmf_other (n j : Nat) (l : List Pw) (s : Nat → List UInt8) (h : ¬ Us (fun m => 1 + 2 * (n + m)) l j) : (l.foldl (hm1 n) s) j = s j := pgf_other (fun m => 1 + 2 * (n + m)) j l s h
theorem blf_other (j : Nat) : ∀ (l : List Pw) (s : Nat → List UInt8), ¬ Us (fun m => 1 + 2 * m) l j → (l.foldl bl1 s) j = s j
  | [], s, _ => rfl
  | a :: r, s, h => by
    rw [List.foldl_cons, blf_other j r _ (fun ⟨x, hx, e⟩ => h ⟨x, List.mem_cons_of_mem _ hx, e⟩)]
    have h1 : j ≠ 1 + 2 * a.n := fun e => h ⟨a, List.mem_cons_self, .inl e⟩
    have h2 : j ≠ 1 + 2 * a.n + 1 := fun e => h ⟨a, List.mem_cons_self, .inr e⟩
    unfold bl1
    rw [setS_ne _ _ h2, setS_ne _ _ h1]
theorem no_zero (g : Nat → Nat) (hg : ∀ m, 0 < g m) (l : List Pw) : ¬ Us g l 0 := by
  rintro ⟨x, _, e⟩
  have := hg x.n
  omega
/-- All but the sectors of U is as it was. -/
def Un (U : Nat → Prop) (N : Nat) (d d' : Nat → List UInt8) : Prop := ∀ i, i < N → ¬ U i → d' i = d i
/-- A sector that is torn between two. -/
def Tn (a b x : List UInt8) : Prop := ∃ k, k ≤ 512 ∧ x = a.take k ++ b.drop k
abbrev gS : Nat → Nat := fun m => 1 + 2 * m
abbrev gH (n : Nat) : Nat → Nat := fun m => 1 + 2 * (n + m)
def chD1 (d : Nat → List UInt8) (l : List Pw) : Nat → List UInt8 := l.foldl sl1 d
def chD2 (d : Nat → List UInt8) (l : List Pw) : Nat → List UInt8 := setS (chD1 d l) 0 (mkB l)
def chD3 (n : Nat) (d : Nat → List UInt8) (l : List Pw) : Nat → List UInt8 := l.foldl (hm1 n) (chD2 d l)
def chD4 (n : Nat) (d : Nat → List UInt8) (l : List Pw) : Nat → List UInt8 := setS (chD3 n d l) 0 ((mkB l).set 511 0)
/-- What may be behind a crash in a change. -/
inductive ChX (n N : Nat) (d : Nat → List UInt8) (l : List Pw) (left : Nat) (d' : Nat → List UInt8) : Prop
  | a (h : left ≤ 2 * l.length + 1) (hu : Un (Us gS l) N d d') : ChX n N d l left d'
  | b (h : 2 * l.length + 1 < left) (h2 : left ≤ 2 * l.length + 3) (hu : Un (· = 0) N (chD1 d l) d') (ht : Tn (mkB l) (d 0) (d' 0)) : ChX n N d l left d'
  | c (h : 2 * l.length + 3 < left) (hu : Un (Us (gH n) l) N (chD2 d l) d') : ChX n N d l left d'
  | e (h : 2 * l.length + 3 < left) (hu : Un (· = 0) N (chD3 n d l) d') (ht : Tn ((mkB l).set 511 0) (mkB l) (d' 0)) : ChX n N d l left d'
  | f (h : 2 * l.length + 3 < left) (hu : Un (fun i => i = 0 ∨ Us gS l i) N (chD4 n d l) d') (ht : Tn zS ((mkB l).set 511 0) (d' 0)) : ChX n N d l left d'
structure ChA (w2 : World) (L : Lay) (N : Nat) (d s : Nat → List UInt8) (p0 : List Nat) (g : Nat → Nat) (lf c : Nat) (f : (Nat → List UInt8) → Pw → Nat → List UInt8) (l : List Pw) (x : Nat × Lay) (W : World) : Prop where
  t : Turn w2 W L x.2
  d : Da W x.2 N d ((l.take x.1).foldl f s) (p0 ++ psL g (l.take x.1)) (lf - 2 * x.1) (c + 2 * x.1)
  le : x.1 ≤ l.length
  lf : lf = 0 ∨ 2 * x.1 < lf
set_option maxRecDepth 100000 in
set_option maxHeartbeats 4000000 in
theorem achange {w : World} {L : Lay} {N : Nat} {d : Nat → List UInt8} {left c : Nat} (n : Nat) (h : Da w L N d d [] left c) (hnN : 4 * n + 1 ≤ N) (hN : N ≤ 10000) (v : Value) (l : List Pw) (hp : Pws w v l) (hk : l.length ≤ 250) (hd : (l.map Pw.n).Nodup) (hn : ∀ x ∈ l, x.n < n) (hn2 : n ≤ 250) (hvF : ∀ k, v.ownBlock = some k → ¬ L.F k) (hxF : ∀ x ∈ l, ∀ k, x.v.ownBlock = some k → ¬ L.F k) (hxB : ∀ x ∈ l, ∀ k, x.v.ownBlock = some k → k < w.heap.size) (hcal : c ≤ 1000000) : Calls Tryz.prog 44 #[dkV L.p n, v] w fun e w' => ((left = 0 ∨ 6 * l.length + 8 < left) ∧ e = .returned (.tuple #[]) ∧ ∃ L', Turn w w' L L' ∧ Da w' L' N (chS n d l) (chS n d l) [] (left - (6 * l.length + 8)) (c + 6 * l.length + 8)) ∨ (e = .panicked sur ∧ Gone w L N (c + 6 * l.length + 8) (ChX n N d l left) w') := by
  refine calls_of_args [dkV L.p n, v] Tryz.func44 rfl 82 Tryz.ntmps44 (by show 2 ≤ 82; decide) ?_; refine EW.seq ?_; refine EW.region ?_
  obtain ⟨w1, q, r1, b1, e1, hq⟩ := box55 L.p n w
  have h1 := h.below e1
  have p1 := hp.below e1
  refine WL.box rfl rfl rfl r1 ?_; refine WL.done ?_; refine EW.on ?_; refine EW.seq ?_; refine EW.region ?_; refine WL.move rfl rfl rfl ?_; refine WL.call [v] enter67 rfl rfl rfl (markerOf_any p1 (by omega) (fun x hx => by have := hn x hx; omega)) ?_
  rintro _ w2 ⟨u, rfl, o2, e2⟩
  have h2 := h1.below e2
  have e12 : Below w.heap.size w w2 := e1.trans (e2.mono e1.size)
  have hxB3 := e12.size
  have hqF : ¬ L.F q := fun hF => by have := h.F _ hF; omega
  have huF : ∀ k, u.ownBlock = some k → ¬ L.F k := fun k hk hF => by have := h1.F _ hF; have := o2.base k hk; omega
  have b2 := b1.on e2
  have p2 := p1.below e2
  have hml : (mkB l).length = 512 := by unfold mkB; rw [List.length_set, mkT_len]
  refine ⟨_, rfl, ?_⟩; refine WL.assign rfl rfl rfl ?_; refine WL.done ?_; refine EW.on ?_; refine EW.seq ?_; refine EW.seq ?_; refine EW.region ?_; refine WL.move rfl rfl rfl ?_; refine WL.len rfl rfl rfl (p2.len _ _) ?_; refine WL.move rfl rfl rfl ?_; refine WL.done ?_; refine EW.on ?_; refine EW.block ?_; refine EW.loop (chE q v u 13 15 l.length) (ChA w2 L N d d [] gS left c sl1 l) (fun x => l.length - x.1) (0, L) [1, 2, 4, 13, 14, 15] rfl ⟨Turn.refl _ _, h2, Nat.zero_le _, by omega⟩ ?_
  rintro ⟨t, Li⟩ wi ⟨ti, di, hle, hlf⟩
  simp only at ti di hle hlf
  obtain ⟨S, hS⟩ : ∃ S, (l.take t).foldl sl1 d = S := ⟨_, rfl⟩
  rw [hS] at di
  show EW _ _ _ _ [(1, v), (2, .pointer (some ⟨q, 0, none⟩)), (4, u), (13, v), (14, .int .i64 (l.length : Int)), (15, .int .i64 (t : Int))] _
  refine EW.seq ?_; refine EW.region ?_
  first | refine WL.bin rfl rfl rfl rfl (int_lt_t ‹_› _ _ _) ?_ | refine WL.bin rfl rfl rfl rfl (int_lt_f ‹_› _ _ _) ?_ | refine WL.bin rfl rfl rfl rfl (int_lt_d _ _ _ _ _) ?_
  refine WL.done ?_; refine EW.on ?_; refine EW.seq ?_; refine EW.cond_d rfl (fun h16 => ?_) (fun h16 => ?_)
  · refine EW.skip ?_; refine EW.on ?_; refine EW.seq ?_; refine EW.block ?_; refine EW.seq ?_
    have ht : t < l.length := by omega
    have tn : IntKind.i64.wrap ((t : Int) + 1) = ((t + 1 : Nat) : Int) := by rw [IntKind.wrap_i64]; omega
    refine EW.region ?_
    obtain ⟨x, hx⟩ : ∃ x, l[t]? = some x := ⟨_, List.getElem?_eq_getElem ht⟩
    have hxm := List.mem_of_getElem? hx
    have hxn := hn x hxm
    have pi := p2.fx ti.fx hvF hxF
    have bi := b2.fx ti.fx hqF
    obtain ⟨ad, ix, lx⟩ := pi.item hx
    refine WL.index rfl rfl rfl rfl (ix _) ?_; refine WL.load rfl rfl rfl lx ?_
    obtain ⟨wv, w3, q3, r3, s3, b3, e3, hq3⟩ := var111 x (pi.has x hxm)
    refine WL.new rfl rfl r3 ?_
    have p3 := pi.below e3
    have bi3 := bi.on e3
    have d3 := di.below e3
    have hxb := (p3.has x hxm).2
    obtain ⟨hnw, hnw2⟩ := psL_new pl_slot hd hx
    have hpl := psL_len gS (l.take t)
    rw [List.length_take] at hpl
    refine WL.store rfl rfl rfl s3 ?_; refine WL.done ?_; refine EW.on ?_
    refine EW.ordPB [(0, 0, 1), (1, 0, 1), (2, 0, 0), (3, 0, 1), (5, 0, 0), (6, 0, 1), (4, 1, 1), (7, 1, 0)] (fun ch W => ch = sur ∧ (left - 2 * t = 1 ∨ left - 2 * t = 2) ∧ Gone w3 Li N (c + 2 * t + 2) (CrO (fun j => j = 1 + 2 * x.n ∨ j = 1 + 2 * x.n + 1) N d S) W) (fun ch W h => by
      obtain ⟨rfl, h⟩ := h
      repeat (first | refine pp_then ?_ | refine pp_block ?_)
      exact pp_post (.inr ⟨rfl, (((h.2.pre e3).from ti).pre e12).mono (by omega) fun d' hl hc => ChX.a (by omega) fun i hi hu => hc.un hi (fun e => hu ⟨x, hxm, e⟩) (by rw [← hS]; exact slf_other i _ _ (fun h => hu h.take))⟩)) (by kernel_rfl) rfl (by kernel_rfl) ?_
    simp only [opsZ, List.getD_cons_zero, List.getD_cons_succ]; refine ZE.load rfl rfl rfl rfl sz1 (fun W hW => ld55 (bi3.on (sb_of hW))) ?_; refine ZE.load rfl rfl rfl rfl sz1 (fun W hW => ld55 (bi3.on (sb_of hW))) ?_; refine ZE.field rfl rfl rfl rfl sz0 (fun W => fld111_0 q3 W) ?_; refine ZE.load rfl rfl rfl rfl sz1 (fun W hW => ldpn (b3.on (sb_of hW))) ?_; refine ZE.field rfl rfl rfl rfl sz0 (fun W => fld111_1 q3 W) ?_; refine ZE.load rfl rfl rfl rfl sz1 (fun W hW => ldpb (b3.on (sb_of hW))) ?_; refine ZE.callR [dkV L.p n, .int .i64 (x.n : Int)] (fun v W => v = .int .i64 ((1 + 2 * x.n : Nat) : Int) ∧ Below w3.heap.size w3 W) enter63 rfl rfl rfl (fun _ _ h => .inr h.2) (fun W hW => (slot_any L.p n x.n W (by omega)).mono fun e w' ⟨g1, g2⟩ => ⟨_, g1, rfl, hW.trans (g2.mono hW.size)⟩) ?_
    rintro _ ⟨_, rfl, _⟩
    refine ZE.callRP [dkV L.p n, .int .i64 ((1 + 2 * x.n : Nat) : Int), x.v] (fun v W => v = .tuple #[] ∧ left - 2 * t ≠ 1 ∧ left - 2 * t ≠ 2 ∧ ∃ L', Turn w3 W Li L' ∧ Da W L' N d (sl1 S x) (([] ++ psL gS (l.take t)) ++ [1 + 2 * x.n] ++ [1 + 2 * x.n + 1]) (left - 2 * t - 2) (c + 2 * t + 2)) enter62 rfl rfl rfl (fun _ _ _ => .inl rfl) (fun W hW => by
          rw [← ti.p]
          refine (awritePage n (d3.below hW.2) (1 + 2 * x.n) (by omega) (by simpa using hnw) (by simpa using hnw2) (by omega) x.v x.b hxb ((p3.has x hxm).1.below hW.2) (fun k hk hF => (ti.own k hF).elim (hxF x hxm k hk) (fun h2 => by have := hxB x hxm k hk; omega)) (by simp only [List.nil_append]; omega) (by omega)).mono fun e w' h => ?_
          rcases h with ⟨g0, g00, g1, L', g2, g3⟩ | ⟨g0, g1, g2⟩
          · exact .inl ⟨_, g1, rfl, g0, g00, L', g2.pre hW.2, g3⟩
          · exact .inr ⟨_, g1, rfl, g0, g2.pre hW.2⟩) ?_
    rintro _ ⟨_, rfl, _⟩
    rintro wz ⟨_, gz, gz2, Lz, tz, dz⟩
    replace tz := tz.pre e3
    refine pn_block ?_; refine EW.on ?_; refine EW.region ?_; refine WL.bin rfl rfl rfl rfl (int_add ‹_› _ _ _) ?_; refine WL.move rfl rfl rfl ?_; refine WL.done ?_; refine EW.again (E := chE q v u 13 15 l.length) (R := ChA w2 L N d d [] gS left c sl1 l) (m := fun x => l.length - x.1) (x := (t, Li)) (t + 1, Lz) [1, 2, 4, 13, 14, 15] rfl ⟨ti.trans tz, by rw [fold_snoc sl1 d hx, hS, psL_snoc _ hx]; exact dz, by show t + 1 ≤ _; omega, by show _ ∨ 2 * (t + 1) < _; omega⟩ (by show _ - (t + 1) < _ - t; omega)
  · refine EW.exit ?_; refine px_then ?_; refine px_then ?_; refine px_block ?_; refine EW.on ?_; refine EW.seq ?_
    have hte : t = l.length := by omega
    refine EW.region ?_; refine WL.load rfl rfl rfl (ld55 (b2.fx ti.fx hqF)) ?_; refine WL.callP [dkV L.p n] enter57 rfl rfl rfl (by rw [← ti.p]; exact aflush n di (by omega)) ?_
    rintro _ w7 (⟨g7, rfl, L7, t7, d7⟩ | ⟨g0, rfl, go⟩)
    rotate_left
    · refine .inr ⟨_, rfl, ?_⟩
      repeat (first | refine pp_then ?_ | refine pp_block ?_)
      exact pp_post (.inr ⟨rfl, ((go.from ti).pre e12).mono (by omega) fun d' hl hc => ChX.a (by omega) fun i hi hu => (hc.o (U := Us gS l) (s := d) (fun j _ hj => by rw [← hS]; exact slf_other j _ _ (fun h => hj h.take))).un hi hu rfl⟩)
    have t07 := ti.trans t7
    refine .inl ⟨_, rfl, ?_⟩
    rw [← hS, hte, List.take_length] at d7
    obtain ⟨D1, hD1⟩ : ∃ D1, D1 = chD1 d l := ⟨_, rfl⟩
    rw [show l.foldl sl1 d = D1 from hD1.symm] at d7
    have hD10 : D1 0 = d 0 := by rw [hD1]; exact slf_other 0 l d (no_zero gS (fun m => by show 0 < 1 + 2 * m; omega) l)
    refine WL.done ?_; refine EW.on ?_; refine EW.seq ?_; refine EW.region ?_; refine WL.load rfl rfl rfl (ld55 (b2.fx t07.fx hqF)) ?_; refine WL.move rfl rfl rfl ?_; refine WL.callP [dkV L.p n, .int .i64 ((0 : Nat) : Int), u] enter64 rfl rfl rfl (by rw [← t07.p]; exact awrite n d7 0 (by omega) (by simp) u (mkB l) hml (o2.has.fx t07.fx huF) (by simp) (by omega)) ?_
    rintro _ w8 (⟨g8, rfl, L8, t8, d8⟩ | ⟨g0, rfl, go⟩)
    rotate_left
    · refine .inr ⟨_, rfl, ?_⟩
      repeat (first | refine pp_then ?_ | refine pp_block ?_)
      exact pp_post (.inr ⟨rfl, ((go.from t07).pre e12).mono (by omega) fun d' hl hc => ChX.b (by omega) (by omega) (fun i hi hu => by rw [← hD1]; exact (hc.o (U := (· = 0)) (s := D1) (fun j _ hj => setS_ne _ _ hj)).un hi hu rfl) (by rw [← hD10]; obtain ⟨k, hk, e⟩ := hc 0 (by omega); rw [setS_eq] at e; exact ⟨k, hk, e⟩)⟩)
    have t08 := t07.trans t8
    refine .inl ⟨_, rfl, ?_⟩; refine WL.done ?_; refine EW.on ?_; refine EW.seq ?_; refine EW.region ?_; refine WL.load rfl rfl rfl (ld55 (b2.fx t08.fx hqF)) ?_; refine WL.callP [dkV L.p n] enter57 rfl rfl rfl (by rw [← t08.p]; exact aflush n d8 (by omega)) ?_
    rintro _ w9 (⟨g9, rfl, L9, t9, d9⟩ | ⟨g0, rfl, go⟩)
    rotate_left
    · refine .inr ⟨_, rfl, ?_⟩
      repeat (first | refine pp_then ?_ | refine pp_block ?_)
      exact pp_post (.inr ⟨rfl, ((go.from t08).pre e12).mono (by omega) fun d' hl hc => ChX.b (by omega) (by omega) (fun i hi hu => by rw [← hD1]; exact (hc.o (U := (· = 0)) (s := D1) (fun j _ hj => setS_ne _ _ hj)).un hi hu rfl) (by rw [← hD10]; obtain ⟨k, hk, e⟩ := hc 0 (by omega); rw [setS_eq] at e; exact ⟨k, hk, e⟩)⟩)
    have t09 := t08.trans t9
    refine .inl ⟨_, rfl, ?_⟩
    obtain ⟨D2, hD2⟩ : ∃ D2, chD2 d l = D2 := ⟨_, rfl⟩
    rw [show setS D1 0 (mkB l) = D2 from by rw [hD1]; exact hD2, show left - 2 * l.length - 1 - 1 - 1 = left - (2 * l.length + 3) - 2 * 0 by omega, show c + 2 * l.length + 1 + 1 + 1 = c + (2 * l.length + 3) + 2 * 0 by omega] at d9
    refine WL.done ?_; refine EW.on ?_; refine EW.seq ?_; refine EW.seq ?_; refine EW.region ?_; refine WL.move rfl rfl rfl ?_; refine WL.len rfl rfl rfl (p2.len _ _) ?_; refine WL.move rfl rfl rfl ?_; refine WL.done ?_; refine EW.on ?_; refine EW.block ?_; refine EW.loop (chE q v u 35 37 l.length) (ChA w2 L N D2 D2 [] (gH n) (left - (2 * l.length + 3)) (c + (2 * l.length + 3)) (hm1 n) l) (fun x => l.length - x.1) (0, L9) [1, 2, 4, 35, 36, 37] rfl ⟨t09, d9, Nat.zero_le _, by omega⟩ ?_
    rintro ⟨t, Li⟩ wi ⟨ti, di, hle, hlf⟩
    simp only at ti di hle hlf
    obtain ⟨S, hS⟩ : ∃ S, (l.take t).foldl (hm1 n) D2 = S := ⟨_, rfl⟩
    rw [hS] at di
    show EW _ _ _ _ [(1, v), (2, .pointer (some ⟨q, 0, none⟩)), (4, u), (35, v), (36, .int .i64 (l.length : Int)), (37, .int .i64 (t : Int))] _
    refine EW.seq ?_; refine EW.region ?_
    first | refine WL.bin rfl rfl rfl rfl (int_lt_t ‹_› _ _ _) ?_ | refine WL.bin rfl rfl rfl rfl (int_lt_f ‹_› _ _ _) ?_ | refine WL.bin rfl rfl rfl rfl (int_lt_d _ _ _ _ _) ?_
    refine WL.done ?_; refine EW.on ?_; refine EW.seq ?_; refine EW.cond_d rfl (fun h38 => ?_) (fun h38 => ?_)
    · refine EW.skip ?_; refine EW.on ?_; refine EW.seq ?_; refine EW.block ?_; refine EW.seq ?_
      have ht : t < l.length := by omega
      have tn : IntKind.i64.wrap ((t : Int) + 1) = ((t + 1 : Nat) : Int) := by rw [IntKind.wrap_i64]; omega
      refine EW.region ?_
      obtain ⟨x, hx⟩ : ∃ x, l[t]? = some x := ⟨_, List.getElem?_eq_getElem ht⟩
      have hxm := List.mem_of_getElem? hx
      have hxn := hn x hxm
      have pi := p2.fx ti.fx hvF hxF
      have bi := b2.fx ti.fx hqF
      obtain ⟨ad, ix, lx⟩ := pi.item hx
      refine WL.index rfl rfl rfl rfl (ix _) ?_; refine WL.load rfl rfl rfl lx ?_
      obtain ⟨wv, w3, q3, r3, s3, b3, e3, hq3⟩ := var111 x (pi.has x hxm)
      refine WL.new rfl rfl r3 ?_
      have p3 := pi.below e3
      have bi3 := bi.on e3
      have d3 := di.below e3
      have hxb := (p3.has x hxm).2
      obtain ⟨hnw, hnw2⟩ := psL_new (pl_home n) hd hx
      have hpl := psL_len (gH n) (l.take t)
      rw [List.length_take] at hpl
      refine WL.store rfl rfl rfl s3 ?_; refine WL.done ?_; refine EW.on ?_
      refine EW.ordPB [(0, 0, 1), (1, 0, 1), (2, 0, 0), (3, 0, 1), (5, 0, 0), (6, 0, 1), (4, 1, 1), (7, 1, 0)] (fun ch W => ch = sur ∧ ((left - (2 * l.length + 3)) - 2 * t = 1 ∨ (left - (2 * l.length + 3)) - 2 * t = 2) ∧ Gone w3 Li N ((c + (2 * l.length + 3)) + 2 * t + 2) (CrO (fun j => j = 1 + 2 * (n + x.n) ∨ j = 1 + 2 * (n + x.n) + 1) N D2 S) W) (fun ch W h => by
        obtain ⟨rfl, h⟩ := h
        repeat (first | refine pp_then ?_ | refine pp_block ?_)
        exact pp_post (.inr ⟨rfl, (((h.2.pre e3).from ti).pre e12).mono (by omega) fun d' hl hc => ChX.c (by omega) fun i hi hu => by rw [hD2]; exact hc.un hi (fun e => hu ⟨x, hxm, e⟩) (by rw [← hS]; exact hmf_other n i _ _ (fun h => hu h.take))⟩)) (by kernel_rfl) rfl (by kernel_rfl) ?_
      simp only [opsZ, List.getD_cons_zero, List.getD_cons_succ]; refine ZE.load rfl rfl rfl rfl sz1 (fun W hW => ld55 (bi3.on (sb_of hW))) ?_; refine ZE.load rfl rfl rfl rfl sz1 (fun W hW => ld55 (bi3.on (sb_of hW))) ?_; refine ZE.field rfl rfl rfl rfl sz0 (fun W => fld111_0 q3 W) ?_; refine ZE.load rfl rfl rfl rfl sz1 (fun W hW => ldpn (b3.on (sb_of hW))) ?_; refine ZE.field rfl rfl rfl rfl sz0 (fun W => fld111_1 q3 W) ?_; refine ZE.load rfl rfl rfl rfl sz1 (fun W hW => ldpb (b3.on (sb_of hW))) ?_; refine ZE.callR [dkV L.p n, .int .i64 (x.n : Int)] (fun v W => v = .int .i64 ((1 + 2 * (n + x.n) : Nat) : Int) ∧ Below w3.heap.size w3 W) enter50 rfl rfl rfl (fun _ _ h => .inr h.2) (fun W hW => (home_any L.p n x.n W (by omega)).mono fun e w' ⟨g1, g2⟩ => ⟨_, g1, rfl, hW.trans (g2.mono hW.size)⟩) ?_
      rintro _ ⟨_, rfl, _⟩
      refine ZE.callRP [dkV L.p n, .int .i64 ((1 + 2 * (n + x.n) : Nat) : Int), x.v] (fun v W => v = .tuple #[] ∧ (left - (2 * l.length + 3)) - 2 * t ≠ 1 ∧ (left - (2 * l.length + 3)) - 2 * t ≠ 2 ∧ ∃ L', Turn w3 W Li L' ∧ Da W L' N D2 (hm1 n S x) (([] ++ psL (gH n) (l.take t)) ++ [1 + 2 * (n + x.n)] ++ [1 + 2 * (n + x.n) + 1]) ((left - (2 * l.length + 3)) - 2 * t - 2) ((c + (2 * l.length + 3)) + 2 * t + 2)) enter62 rfl rfl rfl (fun _ _ _ => .inl rfl) (fun W hW => by
            rw [← ti.p]
            refine (awritePage n (d3.below hW.2) (1 + 2 * (n + x.n)) (by omega) (by simpa using hnw) (by simpa using hnw2) (by omega) x.v x.b hxb ((p3.has x hxm).1.below hW.2) (fun k hk hF => (ti.own k hF).elim (hxF x hxm k hk) (fun h2 => by have := hxB x hxm k hk; omega)) (by simp only [List.nil_append]; omega) (by omega)).mono fun e w' h => ?_
            rcases h with ⟨g0, g00, g1, L', g2, g3⟩ | ⟨g0, g1, g2⟩
            · exact .inl ⟨_, g1, rfl, g0, g00, L', g2.pre hW.2, g3⟩
            · exact .inr ⟨_, g1, rfl, g0, g2.pre hW.2⟩) ?_
      rintro _ ⟨_, rfl, _⟩
      rintro wz ⟨_, gz, gz2, Lz, tz, dz⟩
      replace tz := tz.pre e3
      refine pn_block ?_; refine EW.on ?_; refine EW.region ?_; refine WL.bin rfl rfl rfl rfl (int_add ‹_› _ _ _) ?_; refine WL.move rfl rfl rfl ?_; refine WL.done ?_; refine EW.again (E := chE q v u 35 37 l.length) (R := ChA w2 L N D2 D2 [] (gH n) (left - (2 * l.length + 3)) (c + (2 * l.length + 3)) (hm1 n) l) (m := fun x => l.length - x.1) (x := (t, Li)) (t + 1, Lz) [1, 2, 4, 35, 36, 37] rfl ⟨ti.trans tz, by rw [fold_snoc (hm1 n) D2 hx, hS, psL_snoc _ hx]; exact dz, by show t + 1 ≤ _; omega, by show _ ∨ 2 * (t + 1) < _; omega⟩ (by show _ - (t + 1) < _ - t; omega)
    · refine EW.exit ?_; refine px_then ?_; refine px_then ?_; refine px_block ?_; refine EW.on ?_; refine EW.seq ?_
      have hte : t = l.length := by omega
      refine EW.region ?_; refine WL.load rfl rfl rfl (ld55 (b2.fx ti.fx hqF)) ?_; refine WL.callP [dkV L.p n] enter57 rfl rfl rfl (by rw [← ti.p]; exact aflush n di (by omega)) ?_
      rintro _ w15 (⟨g15, rfl, L15, t15, d15⟩ | ⟨g0, rfl, go⟩)
      rotate_left
      · refine .inr ⟨_, rfl, ?_⟩
        repeat (first | refine pp_then ?_ | refine pp_block ?_)
        exact pp_post (.inr ⟨rfl, ((go.from ti).pre e12).mono (by omega) fun d' hl hc => ChX.c (by omega) fun i hi hu => by rw [hD2]; exact (hc.o (U := Us (gH n) l) (s := D2) (fun j _ hj => by rw [← hS]; exact hmf_other n j _ _ (fun h => hj h.take))).un hi hu rfl⟩)
      have t015 := ti.trans t15
      refine .inl ⟨_, rfl, ?_⟩
      rw [← hS, hte, List.take_length] at d15
      obtain ⟨D3, hD3⟩ : ∃ D3, chD3 n d l = D3 := ⟨_, rfl⟩
      rw [show l.foldl (hm1 n) D2 = D3 from by rw [← hD2]; exact hD3] at d15
      have hD30 : D3 0 = mkB l := by rw [← hD3]; unfold chD3; rw [hmf_other n 0 l _ (no_zero (gH n) (fun m => by show 0 < 1 + 2 * (n + m); omega) l)]; unfold chD2; rw [setS_eq]
      refine WL.done ?_; refine EW.on ?_; refine EW.seq ?_
      have b15 := b2.fx t015.fx hqF
      obtain ⟨D4, hD4⟩ : ∃ D4, setS D3 0 ((mkB l).set 511 0) = D4 := ⟨_, rfl⟩
      have hD40 : D4 0 = (mkB l).set 511 0 := by rw [← hD4, setS_eq]
      have hD4' : chD4 n d l = D4 := by unfold chD4; rw [hD3]; exact hD4
      refine EW.ordPB [(0, 0, 1), (1, 0, 0), (2, 1, 1), (3, 1, 0)] (fun ch W => ch = sur ∧ left - (2 * l.length + 3) - 2 * l.length - 1 = 1 ∧ Gone w15 L15 N (c + (2 * l.length + 3) + 2 * l.length + 1 + 1) (Cr N D3 D4) W) (fun ch W h => by
        obtain ⟨rfl, h⟩ := h
        repeat (first | refine pp_then ?_ | refine pp_block ?_)
        exact pp_post (.inr ⟨rfl, ((h.2.from t015).pre e12).mono (by omega) fun d' hl hc => ChX.e (by omega) (fun i hi hu => by rw [hD3]; exact (hc.o (U := (· = 0)) (s := D3) (fun j _ hj => by rw [← hD4]; exact setS_ne _ _ hj)).un hi hu rfl) (by obtain ⟨k, hk, e⟩ := hc 0 (by omega); rw [← hD4, setS_eq, hD30] at e; exact ⟨k, hk, e⟩)⟩)) (by kernel_rfl) rfl (by kernel_rfl) ?_
      simp only [opsZ, List.getD_cons_zero, List.getD_cons_succ]; refine ZE.load rfl rfl rfl rfl sz1 (fun W hW => ld55 (b15.on (sb_of hW))) ?_; refine ZE.move rfl rfl rfl rfl sz0 ?_; refine ZE.callR [u] (fun v W => Ob W w15.heap.size v ((mkB l).set 511 0) ∧ Below w15.heap.size w15 W) enter65 rfl rfl rfl (fun _ _ h => .inr h.2) (fun W hW => (off_any u (mkB l) W ((o2.has.fx t015.fx huF).below hW) hml).mono fun e w' ⟨u, g1, g2, g3⟩ => ⟨u, g1, g2.mono hW.size, hW.trans (g3.mono hW.size)⟩) ?_
      rintro vo ⟨_, _, _⟩
      refine ZE.callRP [dkV L.p n, .int .i64 ((0 : Nat) : Int), vo] (fun v W => v = .tuple #[] ∧ left - (2 * l.length + 3) - 2 * l.length - 1 ≠ 1 ∧ ∃ L', Turn w15 W L15 L' ∧ Da W L' N D3 D4 ([] ++ [0]) (left - (2 * l.length + 3) - 2 * l.length - 1 - 1) (c + (2 * l.length + 3) + 2 * l.length + 1 + 1)) enter64 rfl rfl rfl (fun _ _ _ => .inl rfl) (fun W hW => by
            rw [← t015.p]
            refine (awrite n (d15.below hW.2) 0 (by omega) (by simp) vo _ (by simp [hml]) hW.1.has (by simp) (by omega)).mono fun e w' h => ?_
            rw [hD4] at h
            rcases h with ⟨g0, g1, L', g2, g3⟩ | ⟨g0, g1, g2⟩
            · exact .inl ⟨_, g1, rfl, g0, L', g2.pre hW.2, g3⟩
            · exact .inr ⟨_, g1, rfl, g0, g2.pre hW.2⟩) ?_
      rintro _ ⟨_, rfl, _⟩
      rintro w16 ⟨_, g16, L16, t16, d16⟩
      have t016 := t015.trans t16
      refine EW.on ?_; refine EW.seq ?_; refine EW.region ?_; refine WL.load rfl rfl rfl (ld55 (b2.fx t016.fx hqF)) ?_; refine WL.callP [dkV L.p n] enter57 rfl rfl rfl (by rw [← t016.p]; exact aflush n d16 (by omega)) ?_
      rintro _ w17 (⟨g17, rfl, L17, t17, d17⟩ | ⟨g0, rfl, go⟩)
      rotate_left
      · refine .inr ⟨_, rfl, ?_⟩
        repeat (first | refine pp_then ?_ | refine pp_block ?_)
        exact pp_post (.inr ⟨rfl, ((go.from t016).pre e12).mono (by omega) fun d' hl hc => ChX.e (by omega) (fun i hi hu => by rw [hD3]; exact (hc.o (U := (· = 0)) (s := D3) (fun j _ hj => by rw [← hD4]; exact setS_ne _ _ hj)).un hi hu rfl) (by obtain ⟨k, hk, e⟩ := hc 0 (by omega); rw [← hD4, setS_eq, hD30] at e; exact ⟨k, hk, e⟩)⟩)
      have t017 := t016.trans t17
      refine .inl ⟨_, rfl, ?_⟩; refine WL.done ?_; refine EW.on ?_; refine EW.seq ?_; refine EW.region ?_; refine WL.load rfl rfl rfl (ld55 (b2.fx t017.fx hqF)) ?_; refine WL.callP [dkV L.p n, .int .i64 ((0 : Nat) : Int)] enter66 rfl rfl rfl (by rw [← t017.p]; exact ablank n d17 0 (by omega) (by simp) (by simp) (by omega)) ?_
      rintro _ w18 (⟨g18, rfl, L18, t18, d18⟩ | ⟨g0, rfl, go⟩)
      rotate_left
      · refine .inr ⟨_, rfl, ?_⟩
        repeat (first | refine pp_then ?_ | refine pp_block ?_)
        exact pp_post (.inr ⟨rfl, ((go.from t017).pre e12).mono (by omega) fun d' hl hc => ChX.f (by omega) (fun i hi hu => by rw [hD4']; exact (hc.o (U := (· = 0)) (s := D4) (fun j _ hj => setS_ne _ _ hj)).un hi (fun e => hu (.inl e)) rfl) (by obtain ⟨k, hk, e⟩ := hc 0 (by omega); rw [setS_eq, hD40] at e; exact ⟨k, hk, e⟩)⟩)
      have t018 := t017.trans t18
      refine .inl ⟨_, rfl, ?_⟩
      rw [show left - (2 * l.length + 3) - 2 * l.length - 1 - 1 - 1 - 1 = left - (4 * l.length + 7) - 2 * 0 by omega, show c + (2 * l.length + 3) + 2 * l.length + 1 + 1 + 1 + 1 = c + (4 * l.length + 7) + 2 * 0 by omega] at d18
      refine WL.done ?_; refine EW.on ?_; refine EW.seq ?_; refine EW.seq ?_; refine EW.region ?_; refine WL.move rfl rfl rfl ?_; refine WL.len rfl rfl rfl (p2.len _ _) ?_; refine WL.move rfl rfl rfl ?_; refine WL.done ?_; refine EW.on ?_; refine EW.block ?_; refine EW.loop (chE q v u 60 62 l.length) (ChA w2 L N D4 (setS D4 0 zS) [0] gS (left - (4 * l.length + 7)) (c + (4 * l.length + 7)) bl1 l) (fun x => l.length - x.1) (0, L18) [1, 2, 4, 60, 61, 62] rfl ⟨t018, d18, Nat.zero_le _, by omega⟩ ?_
      rintro ⟨t, Li⟩ wi ⟨ti, di, hle, hlf⟩
      simp only at ti di hle hlf
      obtain ⟨S, hS⟩ : ∃ S, (l.take t).foldl bl1 (setS D4 0 zS) = S := ⟨_, rfl⟩
      rw [hS] at di
      show EW _ _ _ _ [(1, v), (2, .pointer (some ⟨q, 0, none⟩)), (4, u), (60, v), (61, .int .i64 (l.length : Int)), (62, .int .i64 (t : Int))] _
      refine EW.seq ?_; refine EW.region ?_
      first | refine WL.bin rfl rfl rfl rfl (int_lt_t ‹_› _ _ _) ?_ | refine WL.bin rfl rfl rfl rfl (int_lt_f ‹_› _ _ _) ?_ | refine WL.bin rfl rfl rfl rfl (int_lt_d _ _ _ _ _) ?_
      refine WL.done ?_; refine EW.on ?_; refine EW.seq ?_; refine EW.cond_d rfl (fun h63 => ?_) (fun h63 => ?_)
      · refine EW.skip ?_; refine EW.on ?_; refine EW.seq ?_; refine EW.block ?_; refine EW.seq ?_
        have ht : t < l.length := by omega
        have tn : IntKind.i64.wrap ((t : Int) + 1) = ((t + 1 : Nat) : Int) := by rw [IntKind.wrap_i64]; omega
        have hS0 : S 0 = zS := by rw [← hS, blf_other 0 _ _ (fun h => no_zero gS (fun m => by show 0 < 1 + 2 * m; omega) l h.take), setS_eq]
        refine EW.region ?_
        obtain ⟨x, hx⟩ : ∃ x, l[t]? = some x := ⟨_, List.getElem?_eq_getElem ht⟩
        have hxm := List.mem_of_getElem? hx
        have hxn := hn x hxm
        have pi := p2.fx ti.fx hvF hxF
        have bi := b2.fx ti.fx hqF
        obtain ⟨ad, ix, lx⟩ := pi.item hx
        refine WL.index rfl rfl rfl rfl (ix _) ?_; refine WL.load rfl rfl rfl lx ?_
        obtain ⟨wv, w3, q3, r3, s3, b3, e3, hq3⟩ := var111 x (pi.has x hxm)
        refine WL.new rfl rfl r3 ?_
        have p3 := pi.below e3
        have bi3 := bi.on e3
        have d3 := di.below e3
        have hxb := (p3.has x hxm).2
        obtain ⟨hnw, hnw2⟩ := psL_new pl_slot hd hx
        have hpl := psL_len gS (l.take t)
        rw [List.length_take] at hpl
        refine WL.store rfl rfl rfl s3 ?_; refine WL.done ?_; refine EW.on ?_; refine EW.seq ?_
        refine EW.ordPB [(0, 0, 1), (1, 0, 1), (2, 0, 0), (3, 0, 1), (4, 1, 1), (5, 1, 0)] (fun ch W => ch = sur ∧ left - (4 * l.length + 7) - 2 * t = 1 ∧ Gone w3 Li N (c + (4 * l.length + 7) + 2 * t + 1) (Cr N D4 (setS S (1 + 2 * x.n) zS)) W) (fun ch W h => by
          obtain ⟨rfl, h⟩ := h
          repeat (first | refine pp_then ?_ | refine pp_block ?_)
          exact pp_post (.inr ⟨rfl, (((h.2.pre e3).from ti).pre e12).mono (by omega) fun d' hl hc => ChX.f (by omega) (fun i hi hu => by rw [hD4']; exact (hc.o (U := fun i => i = 0 ∨ Us gS l i) (s := D4) (fun j _ hj => by have hj1 : j ≠ 1 + 2 * x.n := fun e => hj (.inr ⟨x, hxm, .inl e⟩); have hj2 : j ≠ 1 + 2 * x.n + 1 := fun e => hj (.inr ⟨x, hxm, .inr e⟩); rw [setS_ne _ _ hj1, ← hS, blf_other j _ _ (fun h => hj (.inr h.take)), setS_ne _ _ (fun e => hj (.inl e))])).un hi hu rfl) (by obtain ⟨k, hk, e⟩ := hc 0 (by omega); rw [setS_ne _ _ (by omega), hS0, hD40] at e; exact ⟨k, hk, e⟩)⟩)) (by kernel_rfl) rfl (by kernel_rfl) ?_
        simp only [opsZ, List.getD_cons_zero, List.getD_cons_succ]; refine ZE.load rfl rfl rfl rfl sz1 (fun W hW => ld55 (bi3.on (sb_of hW))) ?_; refine ZE.load rfl rfl rfl rfl sz1 (fun W hW => ld55 (bi3.on (sb_of hW))) ?_; refine ZE.field rfl rfl rfl rfl sz0 (fun W => fld111_0 q3 W) ?_; refine ZE.load rfl rfl rfl rfl sz1 (fun W hW => ldpn (b3.on (sb_of hW))) ?_; refine ZE.callR [dkV L.p n, .int .i64 (x.n : Int)] (fun v W => v = .int .i64 ((1 + 2 * x.n : Nat) : Int) ∧ Below w3.heap.size w3 W) enter63 rfl rfl rfl (fun _ _ h => .inr h.2) (fun W hW => (slot_any L.p n x.n W (by omega)).mono fun e w' ⟨g1, g2⟩ => ⟨_, g1, rfl, hW.trans (g2.mono hW.size)⟩) ?_
        rintro _ ⟨_, rfl, _⟩
        refine ZE.callRP [dkV L.p n, .int .i64 ((1 + 2 * x.n : Nat) : Int)] (fun v W => v = .tuple #[] ∧ (left - (4 * l.length + 7)) - 2 * t ≠ 1 ∧ ∃ L', Turn w3 W Li L' ∧ Da W L' N D4 (setS S (1 + 2 * x.n) zS) (([0] ++ psL gS (l.take t)) ++ [1 + 2 * x.n]) ((left - (4 * l.length + 7)) - 2 * t - 1) ((c + (4 * l.length + 7)) + 2 * t + 1)) enter66 rfl rfl rfl (fun _ _ _ => .inl rfl) (fun W hW => by
              rw [← ti.p]
              refine (ablank n (d3.below hW.2) (1 + 2 * x.n) (by omega) (by simp; exact hnw) (by simp only [List.length_append, List.length_cons, List.length_nil]; omega) (by omega)).mono fun e w' h => ?_
              rcases h with ⟨g0, g1, L', g2, g3⟩ | ⟨g0, g1, g2⟩
              · exact .inl ⟨_, g1, rfl, g0, L', g2.pre hW.2, g3⟩
              · exact .inr ⟨_, g1, rfl, g0, g2.pre hW.2⟩) ?_
        rintro _ ⟨_, rfl, _⟩
        rintro w4 ⟨_, g4, L4, t4, d4⟩
        refine EW.on ?_
        have a77 : IntKind.i64.wrap (((1 + 2 * x.n : Nat) : Int) + 1) = ((1 + 2 * x.n + 1 : Nat) : Int) := by rw [IntKind.wrap_i64]; omega
        have b4 := b3.fx t4.fx (fun hF => by have := di.F _ hF; omega)
        have bi4 := bi3.fx t4.fx (fun hF => (ti.own q hF).elim hqF (fun h2 => by have := b2.lt; omega))
        refine EW.ordPB [(0, 0, 1), (1, 0, 1), (2, 0, 0), (3, 0, 1), (4, 1, 1), (5, 0, 0), (6, 1, 0)] (fun ch W => ch = sur ∧ left - (4 * l.length + 7) - 2 * t - 1 = 1 ∧ Gone w4 L4 N (c + (4 * l.length + 7) + 2 * t + 1 + 1) (Cr N D4 (bl1 S x)) W) (fun ch W h => by
          obtain ⟨rfl, h⟩ := h
          repeat (first | refine pp_then ?_ | refine pp_block ?_)
          exact pp_post (.inr ⟨rfl, ((((h.2.from t4).pre e3).from ti).pre e12).mono (by omega) fun d' hl hc => ChX.f (by omega) (fun i hi hu => by rw [hD4']; exact (hc.o (U := fun i => i = 0 ∨ Us gS l i) (s := D4) (fun j _ hj => by have hj1 : j ≠ 1 + 2 * x.n := fun e => hj (.inr ⟨x, hxm, .inl e⟩); have hj2 : j ≠ 1 + 2 * x.n + 1 := fun e => hj (.inr ⟨x, hxm, .inr e⟩); unfold bl1; rw [setS_ne _ _ hj2, setS_ne _ _ hj1, ← hS, blf_other j _ _ (fun h => hj (.inr h.take)), setS_ne _ _ (fun e => hj (.inl e))])).un hi hu rfl) (by obtain ⟨k, hk, e⟩ := hc 0 (by omega); unfold bl1 at e; rw [setS_ne _ _ (by omega), setS_ne _ _ (by omega), hS0, hD40] at e; exact ⟨k, hk, e⟩)⟩)) (by kernel_rfl) rfl (by kernel_rfl) ?_
        simp only [opsZ, List.getD_cons_zero, List.getD_cons_succ]; refine ZE.load rfl rfl rfl rfl sz1 (fun W hW => ld55 (bi4.on (sb_of hW))) ?_; refine ZE.load rfl rfl rfl rfl sz1 (fun W hW => ld55 (bi4.on (sb_of hW))) ?_; refine ZE.field rfl rfl rfl rfl sz0 (fun W => fld111_0 q3 W) ?_; refine ZE.load rfl rfl rfl rfl sz1 (fun W hW => ldpn (b4.on (sb_of hW))) ?_; refine ZE.callR [dkV L.p n, .int .i64 (x.n : Int)] (fun v W => v = .int .i64 ((1 + 2 * x.n : Nat) : Int) ∧ Below w4.heap.size w4 W) enter63 rfl rfl rfl (fun _ _ h => .inr h.2) (fun W hW => (slot_any L.p n x.n W (by omega)).mono fun e w' ⟨g1, g2⟩ => ⟨_, g1, rfl, hW.trans (g2.mono hW.size)⟩) ?_
        rintro _ ⟨_, rfl, _⟩
        refine ZE.bin rfl rfl rfl rfl rfl sz0 (fun W => int_add a77 W _ _) ?_
        refine ZE.callRP [dkV L.p n, .int .i64 ((1 + 2 * x.n + 1 : Nat) : Int)] (fun v W => v = .tuple #[] ∧ (left - (4 * l.length + 7)) - 2 * t - 1 ≠ 1 ∧ ∃ L', Turn w4 W L4 L' ∧ Da W L' N D4 (bl1 S x) (([0] ++ psL gS (l.take t)) ++ [1 + 2 * x.n] ++ [1 + 2 * x.n + 1]) ((left - (4 * l.length + 7)) - 2 * t - 1 - 1) ((c + (4 * l.length + 7)) + 2 * t + 1 + 1)) enter66 rfl rfl rfl (fun _ _ _ => .inl rfl) (fun W hW => by
              rw [← ti.p, ← t4.p]
              refine (ablank n (d4.below hW.2) (1 + 2 * x.n + 1) (by omega) (by simp; exact hnw2) (by simp only [List.length_append, List.length_cons, List.length_nil]; omega) (by omega)).mono fun e w' h => ?_
              rcases h with ⟨g0, g1, L', g2, g3⟩ | ⟨g0, g1, g2⟩
              · exact .inl ⟨_, g1, rfl, g0, L', g2.pre hW.2, g3⟩
              · exact .inr ⟨_, g1, rfl, g0, g2.pre hW.2⟩) ?_
        rintro _ ⟨_, rfl, _⟩
        rintro wz ⟨_, gz, Lz, tz, dz⟩
        replace tz := (t4.trans tz).pre e3
        refine pn_block ?_; refine EW.on ?_; refine EW.region ?_; refine WL.bin rfl rfl rfl rfl (int_add ‹_› _ _ _) ?_; refine WL.move rfl rfl rfl ?_; refine WL.done ?_; refine EW.again (E := chE q v u 60 62 l.length) (R := ChA w2 L N D4 (setS D4 0 zS) [0] gS (left - (4 * l.length + 7)) (c + (4 * l.length + 7)) bl1 l) (m := fun x => l.length - x.1) (x := (t, Li)) (t + 1, Lz) [1, 2, 4, 60, 61, 62] rfl ⟨ti.trans tz, by rw [fold_snoc bl1 (setS D4 0 zS) hx, hS, psL_snoc _ hx]; exact dz, by show t + 1 ≤ _; omega, by show _ ∨ 2 * (t + 1) < _; omega⟩ (by show _ - (t + 1) < _ - t; omega)
      · refine EW.exit ?_; refine px_then ?_; refine px_then ?_; refine px_block ?_; refine EW.on ?_
        have hte : t = l.length := by omega
        refine EW.region ?_; refine WL.load rfl rfl rfl (ld55 (b2.fx ti.fx hqF)) ?_; refine WL.callP [dkV L.p n] enter57 rfl rfl rfl (by rw [← ti.p]; exact aflush n di (by omega)) ?_
        rintro _ w25 (⟨g25, rfl, L25, t25, d25⟩ | ⟨g0, rfl, go⟩)
        rotate_left
        · refine .inr ⟨_, rfl, ?_⟩
          repeat (first | refine pp_then ?_ | refine pp_block ?_)
          exact pp_post (.inr ⟨rfl, ((go.from ti).pre e12).mono (by omega) fun d' hl hc => ChX.f (by omega) (fun i hi hu => by rw [hD4']; exact (hc.o (U := fun i => i = 0 ∨ Us gS l i) (s := D4) (fun j _ hj => by rw [← hS, blf_other j _ _ (fun h => hj (.inr h.take)), setS_ne _ _ (fun e => hj (.inl e))])).un hi hu rfl) (by obtain ⟨k, hk, e⟩ := hc 0 (by omega); rw [← hS, blf_other 0 _ _ (fun h => no_zero gS (fun m => by show 0 < 1 + 2 * m; omega) l h.take), setS_eq, hD40] at e; exact ⟨k, hk, e⟩)⟩)
        have t025 := ti.trans t25
        refine .inl ⟨_, rfl, ?_⟩; refine WL.done ?_
        exact EW.falls Tryz.results44 (.inl ⟨by omega, rfl, L25, t025.pre e12, by rw [← hS, hte, List.take_length, show l.foldl bl1 (setS D4 0 zS) = chS n d l from by rw [← hD4']; rfl, show left - (4 * l.length + 7) - 2 * l.length - 1 = left - (6 * l.length + 8) by omega, show c + (4 * l.length + 7) + 2 * l.length + 1 = c + 6 * l.length + 8 by omega] at d25; exact d25⟩)
end Go.Proofs.YtmbgeojjklboeaaGreatDoor
