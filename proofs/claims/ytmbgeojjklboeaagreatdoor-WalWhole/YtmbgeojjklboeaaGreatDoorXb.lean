import Derived.Test.YtmbgeojjklboeaaGreatDoorXaG
set_option linter.unusedVariables false
set_option linter.unusedSimpArgs false
namespace Go.Proofs.YtmbgeojjklboeaaGreatDoor
open Go.RowKit

/-- A page is written; pages into their slots, home, and their slots become zeros. -/
def pg2 (s : Nat → List UInt8) (i : Nat) (b : List UInt8) : Nat → List UInt8 := setS (setS s i (b.take 512)) (i + 1) (b.drop 512)
def sl1 (s : Nat → List UInt8) (x : Pw) : Nat → List UInt8 := pg2 s (1 + 2 * x.n) x.b
def hm1 (n : Nat) (s : Nat → List UInt8) (x : Pw) : Nat → List UInt8 := pg2 s (1 + 2 * (n + x.n)) x.b
def bl1 (s : Nat → List UInt8) (x : Pw) : Nat → List UInt8 := setS (setS s (1 + 2 * x.n) zS) (1 + 2 * x.n + 1) zS
theorem fold_snoc {α : Type} (f : α → Pw → α) (a : α) {l : List Pw} {t : Nat} {x : Pw} (h : l[t]? = some x) : (l.take (t + 1)).foldl f a = f ((l.take t).foldl f a) x := by
  rw [List.take_add_one, h]
  simp [List.foldl_append]
/-- The sectors behind a change. -/
def chS (n : Nat) (s : Nat → List UInt8) (l : List Pw) : Nat → List UInt8 := l.foldl bl1 (setS (setS (l.foldl (hm1 n) (setS (l.foldl sl1 s) 0 (mkB l))) 0 ((mkB l).set 511 0)) 0 zS)
def chE (q : Nat) (v u : Value) (a b k : Nat) (x : Nat × Lay) : List (Nat × Value) := [(1, v), (2, .pointer (some ⟨q, 0, none⟩)), (4, u), (a, v), (a + 1, .int .i64 (k : Int)), (b, .int .i64 (x.1 : Int))]
structure ChR (w2 : World) (L : Lay) (N m c : Nat) (f : (Nat → List UInt8) → Pw → Nat → List UInt8) (s : Nat → List UInt8) (l : List Pw) (x : Nat × Lay) (W : World) : Prop where
  t : Turn w2 W L x.2
  d : Dk W x.2 N ((l.take x.1).foldl f s) (m + 2 * x.1) (c + 2 * x.1)
  le : x.1 ≤ l.length
set_option maxRecDepth 100000 in
set_option maxHeartbeats 1000000 in
theorem change_ok {w : World} {L : Lay} {N : Nat} {s : Nat → List UInt8} {c : Nat} (n : Nat) (h : Dk w L N s 0 c) (hnN : 4 * n + 1 ≤ N) (hN : N ≤ 10000) (v : Value) (l : List Pw) (hp : Pws w v l) (hk : l.length ≤ 250) (hn : ∀ x ∈ l, x.n < n) (hn2 : n ≤ 250) (hvF : ∀ k, v.ownBlock = some k → ¬ L.F k) (hxF : ∀ x ∈ l, ∀ k, x.v.ownBlock = some k → ¬ L.F k) (hxB : ∀ x ∈ l, ∀ k, x.v.ownBlock = some k → k < w.heap.size) (hcal : c ≤ 1000000) : Calls Tryz.prog 44 #[dkV L.p n, v] w fun e w' => e = .returned (.tuple #[]) ∧ ∃ L', Turn w w' L L' ∧ Dk w' L' N (chS n s l) 0 (c + 6 * l.length + 8) := by
  refine calls_of_args [dkV L.p n, v] Tryz.func44 rfl 82 Tryz.ntmps44 (by show 2 ≤ 82; decide) ?_; refine EW.seq ?_; refine EW.region ?_
  obtain ⟨w1, q, r1, b1, e1, hq⟩ := box55 L.p n w
  have h1 := h.below e1
  have p1 := hp.below e1
  refine WL.box rfl rfl rfl r1 ?_; refine WL.done ?_; refine EW.on ?_; refine EW.seq ?_; refine EW.region ?_; refine WL.move rfl rfl rfl ?_; refine WL.call [v] enter67 rfl rfl rfl (markerOf_any p1 (by omega) (fun x hx => by have := hn x hx; omega)) ?_
  rintro _ w2 ⟨u, rfl, o2, e2⟩
  have h2 := h1.below e2
  have e12 : Below w.heap.size w w2 := e1.trans (e2.mono e1.size)
  have hxB3 := e12.size
  have hqF : ¬ L.F q := fun hF => by have := h.lt _ hF; omega
  have huF : ∀ k, u.ownBlock = some k → ¬ L.F k := fun k hk hF => by have := h1.lt _ hF; have := o2.base k hk; omega
  have b2 := b1.on e2
  have p2 := p1.below e2
  have hml : (mkB l).length = 512 := by unfold mkB; rw [List.length_set, mkT_len]
  refine ⟨_, rfl, ?_⟩; refine WL.assign rfl rfl rfl ?_; refine WL.done ?_; refine EW.on ?_; refine EW.seq ?_; refine EW.seq ?_; refine EW.region ?_; refine WL.move rfl rfl rfl ?_; refine WL.len rfl rfl rfl (p2.len _ _) ?_; refine WL.move rfl rfl rfl ?_; refine WL.done ?_; refine EW.on ?_; refine EW.block ?_; refine EW.loop (chE q v u 13 15 l.length) (ChR w2 L N 0 c sl1 s l) (fun x => l.length - x.1) (0, L) [1, 2, 4, 13, 14, 15] rfl ⟨Turn.refl _ _, h2, Nat.zero_le _⟩ ?_
  rintro ⟨t, Li⟩ wi ⟨ti, di, hle⟩
  simp only at ti di hle
  obtain ⟨S, hS⟩ : ∃ S, (l.take t).foldl sl1 s = S := ⟨_, rfl⟩
  rw [hS] at di
  show EW _ _ _ _ [(1, v), (2, .pointer (some ⟨q, 0, none⟩)), (4, u), (13, v), (14, .int .i64 (l.length : Int)), (15, .int .i64 (t : Int))] _
  refine EW.seq ?_; refine EW.region ?_
  first | refine WL.bin rfl rfl rfl rfl (int_lt_t ‹_› _ _ _) ?_ | refine WL.bin rfl rfl rfl rfl (int_lt_f ‹_› _ _ _) ?_ | refine WL.bin rfl rfl rfl rfl (int_lt_d _ _ _ _ _) ?_
  refine WL.done ?_; refine EW.on ?_; refine EW.seq ?_; refine EW.cond_d rfl (fun h16 => ?_) (fun h16 => ?_)
  · refine EW.skip ?_; refine EW.on ?_; refine EW.seq ?_; refine EW.block ?_; refine EW.seq ?_
    have ht : t < l.length := by omega
    have tn : IntKind.i64.wrap ((t : Int) + 1) = ((t + 1 : Nat) : Int) := by rw [IntKind.wrap_i64]; omega
    refine EW.region ?_
    obtain ⟨x, hx⟩ : ∃ x, l[t]? = some x := ⟨_, List.getElem?_eq_getElem ht⟩
    have hxm := List.mem_of_getElem? hx
    have hxn := hn x hxm
    have pi := p2.fx ti.fx hvF hxF
    have bi := b2.fx ti.fx hqF
    obtain ⟨ad, ix, lx⟩ := pi.item hx
    refine WL.index rfl rfl rfl rfl (ix _) ?_; refine WL.load rfl rfl rfl lx ?_
    obtain ⟨wv, w3, q3, r3, s3, b3, e3, hq3⟩ := var111 x (pi.has x hxm)
    refine WL.new rfl rfl r3 ?_
    have p3 := pi.below e3
    have bi3 := bi.on e3
    have d3 := di.below e3
    have hxb := (p3.has x hxm).2
    refine WL.store rfl rfl rfl s3 ?_; refine WL.done ?_; refine EW.on ?_; refine EW.ordB [(0, 0, 1), (1, 0, 1), (2, 0, 0), (3, 0, 1), (5, 0, 0), (6, 0, 1), (4, 1, 1), (7, 1, 0)] (by kernel_rfl) rfl (by kernel_rfl) ?_; simp only [opsZ, List.getD_cons_zero, List.getD_cons_succ]; refine ZE.load rfl rfl rfl rfl sz1 (fun W hW => ld55 (bi3.on (sb_of hW))) ?_; refine ZE.load rfl rfl rfl rfl sz1 (fun W hW => ld55 (bi3.on (sb_of hW))) ?_; refine ZE.field rfl rfl rfl rfl sz0 (fun W => fld111_0 q3 W) ?_; refine ZE.load rfl rfl rfl rfl sz1 (fun W hW => ldpn (b3.on (sb_of hW))) ?_; refine ZE.field rfl rfl rfl rfl sz0 (fun W => fld111_1 q3 W) ?_; refine ZE.load rfl rfl rfl rfl sz1 (fun W hW => ldpb (b3.on (sb_of hW))) ?_; refine ZE.callR [dkV L.p n, .int .i64 (x.n : Int)] (fun v W => v = .int .i64 ((1 + 2 * x.n : Nat) : Int) ∧ Below w3.heap.size w3 W) enter63 rfl rfl rfl (fun _ _ h => .inr h.2) (fun W hW => (slot_any L.p n x.n W (by omega)).mono fun e w' ⟨g1, g2⟩ => ⟨_, g1, rfl, hW.trans (g2.mono hW.size)⟩) ?_
    rintro _ ⟨_, rfl, _⟩
    refine ZE.callR [dkV L.p n, .int .i64 ((1 + 2 * x.n : Nat) : Int), x.v] (fun v W => v = .tuple #[] ∧ ∃ L', Turn w3 W Li L' ∧ Dk W L' N (sl1 S x) (0 + 2 * t + 2) (c + 2 * t + 2)) enter62 rfl rfl rfl (fun _ _ _ => .inl rfl) (fun W hW => by
      rw [← ti.p]
      exact (writePage_ok n (d3.below hW.2) (1 + 2 * x.n) (by omega) (by omega) x.v x.b hxb ((p3.has x hxm).1.below hW.2) (fun k hk hF => (ti.own k hF).elim (hxF x hxm k hk) (fun h2 => by have := hxB x hxm k hk; omega)) (by omega) (by omega)).mono fun e w' ⟨g1, L', g2, g3⟩ => ⟨_, g1, rfl, L', g2.pre hW.2, g3⟩) ?_
    rintro _ ⟨_, rfl, _⟩
    rintro wz ⟨_, Lz, tz, dz⟩
    replace tz := tz.pre e3
    refine pn_block ?_; refine EW.on ?_; refine EW.region ?_; refine WL.bin rfl rfl rfl rfl (int_add ‹_› _ _ _) ?_; refine WL.move rfl rfl rfl ?_; refine WL.done ?_; refine EW.again (E := chE q v u 13 15 l.length) (R := ChR w2 L N 0 c sl1 s l) (m := fun x => l.length - x.1) (x := (t, Li)) (t + 1, Lz) [1, 2, 4, 13, 14, 15] rfl ⟨ti.trans tz, by rw [fold_snoc sl1 s hx, hS]; exact dz, by show t + 1 ≤ _; omega⟩ (by show _ - (t + 1) < _ - t; omega)
  · refine EW.exit ?_; refine px_then ?_; refine px_then ?_; refine px_block ?_; refine EW.on ?_; refine EW.seq ?_
    have hte : t = l.length := by omega
    refine EW.region ?_; refine WL.load rfl rfl rfl (ld55 (b2.fx ti.fx hqF)) ?_; refine WL.call [dkV L.p n] enter57 rfl rfl rfl (by rw [← ti.p]; exact kflush_ok n di (by omega)) ?_
    rintro _ w7 ⟨rfl, L7, t7, d7⟩
    have t07 := ti.trans t7
    refine ⟨_, rfl, ?_⟩
    rw [← hS, hte, List.take_length] at d7
    refine WL.done ?_; refine EW.on ?_; refine EW.seq ?_; refine EW.region ?_; refine WL.load rfl rfl rfl (ld55 (b2.fx t07.fx hqF)) ?_; refine WL.move rfl rfl rfl ?_; refine WL.call [dkV L.p n, .int .i64 ((0 : Nat) : Int), u] enter64 rfl rfl rfl (by rw [← t07.p]; exact kwrite_ok n d7 0 (by omega) u (mkB l) hml (o2.has.fx t07.fx huF) (by omega) (by omega)) ?_
    rintro _ w8 ⟨rfl, L8, t8, d8⟩
    have t08 := t07.trans t8
    refine ⟨_, rfl, ?_⟩; refine WL.done ?_; refine EW.on ?_; refine EW.seq ?_; refine EW.region ?_; refine WL.load rfl rfl rfl (ld55 (b2.fx t08.fx hqF)) ?_; refine WL.call [dkV L.p n] enter57 rfl rfl rfl (by rw [← t08.p]; exact kflush_ok n d8 (by omega)) ?_
    rintro _ w9 ⟨rfl, L9, t9, d9⟩
    have t09 := t08.trans t9
    refine ⟨_, rfl, ?_⟩
    obtain ⟨S1, hS1⟩ : ∃ S1, setS (l.foldl sl1 s) 0 (mkB l) = S1 := ⟨_, rfl⟩
    rw [hS1, show c + 2 * l.length + 1 + 1 + 1 = c + 2 * l.length + 3 by omega] at d9
    rw [show (0 : Nat) = 0 + 2 * 0 by rfl, show c + 2 * l.length + 3 = c + 2 * l.length + 3 + 2 * 0 by omega] at d9
    refine WL.done ?_; refine EW.on ?_; refine EW.seq ?_; refine EW.seq ?_; refine EW.region ?_; refine WL.move rfl rfl rfl ?_; refine WL.len rfl rfl rfl (p2.len _ _) ?_; refine WL.move rfl rfl rfl ?_; refine WL.done ?_; refine EW.on ?_; refine EW.block ?_; refine EW.loop (chE q v u 35 37 l.length) (ChR w2 L N 0 (c + 2 * l.length + 3) (hm1 n) S1 l) (fun x => l.length - x.1) (0, L9) [1, 2, 4, 35, 36, 37] rfl ⟨t09, d9, Nat.zero_le _⟩ ?_
    rintro ⟨t, Li⟩ wi ⟨ti, di, hle⟩
    simp only at ti di hle
    obtain ⟨S, hS⟩ : ∃ S, (l.take t).foldl (hm1 n) S1 = S := ⟨_, rfl⟩
    rw [hS] at di
    show EW _ _ _ _ [(1, v), (2, .pointer (some ⟨q, 0, none⟩)), (4, u), (35, v), (36, .int .i64 (l.length : Int)), (37, .int .i64 (t : Int))] _
    refine EW.seq ?_; refine EW.region ?_
    first | refine WL.bin rfl rfl rfl rfl (int_lt_t ‹_› _ _ _) ?_ | refine WL.bin rfl rfl rfl rfl (int_lt_f ‹_› _ _ _) ?_ | refine WL.bin rfl rfl rfl rfl (int_lt_d _ _ _ _ _) ?_
    refine WL.done ?_; refine EW.on ?_; refine EW.seq ?_; refine EW.cond_d rfl (fun h38 => ?_) (fun h38 => ?_)
    · refine EW.skip ?_; refine EW.on ?_; refine EW.seq ?_; refine EW.block ?_; refine EW.seq ?_
      have ht : t < l.length := by omega
      have tn : IntKind.i64.wrap ((t : Int) + 1) = ((t + 1 : Nat) : Int) := by rw [IntKind.wrap_i64]; omega
      refine EW.region ?_
      obtain ⟨x, hx⟩ : ∃ x, l[t]? = some x := ⟨_, List.getElem?_eq_getElem ht⟩
      have hxm := List.mem_of_getElem? hx
      have hxn := hn x hxm
      have pi := p2.fx ti.fx hvF hxF
      have bi := b2.fx ti.fx hqF
      obtain ⟨ad, ix, lx⟩ := pi.item hx
      refine WL.index rfl rfl rfl rfl (ix _) ?_; refine WL.load rfl rfl rfl lx ?_
      obtain ⟨wv, w3, q3, r3, s3, b3, e3, hq3⟩ := var111 x (pi.has x hxm)
      refine WL.new rfl rfl r3 ?_
      have p3 := pi.below e3
      have bi3 := bi.on e3
      have d3 := di.below e3
      have hxb := (p3.has x hxm).2
      refine WL.store rfl rfl rfl s3 ?_; refine WL.done ?_; refine EW.on ?_; refine EW.ordB [(0, 0, 1), (1, 0, 1), (2, 0, 0), (3, 0, 1), (5, 0, 0), (6, 0, 1), (4, 1, 1), (7, 1, 0)] (by kernel_rfl) rfl (by kernel_rfl) ?_; simp only [opsZ, List.getD_cons_zero, List.getD_cons_succ]; refine ZE.load rfl rfl rfl rfl sz1 (fun W hW => ld55 (bi3.on (sb_of hW))) ?_; refine ZE.load rfl rfl rfl rfl sz1 (fun W hW => ld55 (bi3.on (sb_of hW))) ?_; refine ZE.field rfl rfl rfl rfl sz0 (fun W => fld111_0 q3 W) ?_; refine ZE.load rfl rfl rfl rfl sz1 (fun W hW => ldpn (b3.on (sb_of hW))) ?_; refine ZE.field rfl rfl rfl rfl sz0 (fun W => fld111_1 q3 W) ?_; refine ZE.load rfl rfl rfl rfl sz1 (fun W hW => ldpb (b3.on (sb_of hW))) ?_; refine ZE.callR [dkV L.p n, .int .i64 (x.n : Int)] (fun v W => v = .int .i64 ((1 + 2 * (n + x.n) : Nat) : Int) ∧ Below w3.heap.size w3 W) enter50 rfl rfl rfl (fun _ _ h => .inr h.2) (fun W hW => (home_any L.p n x.n W (by omega)).mono fun e w' ⟨g1, g2⟩ => ⟨_, g1, rfl, hW.trans (g2.mono hW.size)⟩) ?_
      rintro _ ⟨_, rfl, _⟩
      refine ZE.callR [dkV L.p n, .int .i64 ((1 + 2 * (n + x.n) : Nat) : Int), x.v] (fun v W => v = .tuple #[] ∧ ∃ L', Turn w3 W Li L' ∧ Dk W L' N (hm1 n S x) (0 + 2 * t + 2) (c + 2 * l.length + 3 + 2 * t + 2)) enter62 rfl rfl rfl (fun _ _ _ => .inl rfl) (fun W hW => by
      rw [← ti.p]
      exact (writePage_ok n (d3.below hW.2) (1 + 2 * (n + x.n)) (by omega) (by omega) x.v x.b hxb ((p3.has x hxm).1.below hW.2) (fun k hk hF => (ti.own k hF).elim (hxF x hxm k hk) (fun h2 => by have := hxB x hxm k hk; omega)) (by omega) (by omega)).mono fun e w' ⟨g1, L', g2, g3⟩ => ⟨_, g1, rfl, L', g2.pre hW.2, g3⟩) ?_
      rintro _ ⟨_, rfl, _⟩
      rintro wz ⟨_, Lz, tz, dz⟩
      replace tz := tz.pre e3
      refine pn_block ?_; refine EW.on ?_; refine EW.region ?_; refine WL.bin rfl rfl rfl rfl (int_add ‹_› _ _ _) ?_; refine WL.move rfl rfl rfl ?_; refine WL.done ?_; refine EW.again (E := chE q v u 35 37 l.length) (R := ChR w2 L N 0 (c + 2 * l.length + 3) (hm1 n) S1 l) (m := fun x => l.length - x.1) (x := (t, Li)) (t + 1, Lz) [1, 2, 4, 35, 36, 37] rfl ⟨ti.trans tz, by rw [fold_snoc (hm1 n) S1 hx, hS]; exact dz, by show t + 1 ≤ _; omega⟩ (by show _ - (t + 1) < _ - t; omega)
    · refine EW.exit ?_; refine px_then ?_; refine px_then ?_; refine px_block ?_; refine EW.on ?_; refine EW.seq ?_
      have hte : t = l.length := by omega
      refine EW.region ?_; refine WL.load rfl rfl rfl (ld55 (b2.fx ti.fx hqF)) ?_; refine WL.call [dkV L.p n] enter57 rfl rfl rfl (by rw [← ti.p]; exact kflush_ok n di (by omega)) ?_
      rintro _ w15 ⟨rfl, L15, t15, d15⟩
      have t015 := ti.trans t15
      refine ⟨_, rfl, ?_⟩
      rw [← hS, hte, List.take_length] at d15
      refine WL.done ?_; refine EW.on ?_; refine EW.seq ?_
      have b15 := b2.fx t015.fx hqF
      refine EW.ordB [(0, 0, 1), (1, 0, 0), (2, 1, 1), (3, 1, 0)] (by kernel_rfl) rfl (by kernel_rfl) ?_; simp only [opsZ, List.getD_cons_zero, List.getD_cons_succ]; refine ZE.load rfl rfl rfl rfl sz1 (fun W hW => ld55 (b15.on (sb_of hW))) ?_; refine ZE.move rfl rfl rfl rfl sz0 ?_; refine ZE.callR [u] (fun v W => Ob W w15.heap.size v ((mkB l).set 511 0) ∧ Below w15.heap.size w15 W) enter65 rfl rfl rfl (fun _ _ h => .inr h.2) (fun W hW => (off_any u (mkB l) W ((o2.has.fx t015.fx huF).below hW) hml).mono fun e w' ⟨u, g1, g2, g3⟩ => ⟨u, g1, g2.mono hW.size, hW.trans (g3.mono hW.size)⟩) ?_
      rintro vo ⟨_, _, _⟩
      refine ZE.callR [dkV L.p n, .int .i64 ((0 : Nat) : Int), vo] (fun v W => v = .tuple #[] ∧ ∃ L', Turn w15 W L15 L' ∧ Dk W L' N (setS (l.foldl (hm1 n) S1) 0 ((mkB l).set 511 0)) 1 (c + 2 * l.length + 3 + 2 * l.length + 1 + 1)) enter64 rfl rfl rfl (fun _ _ _ => .inl rfl) (fun W hW => by
      rw [← t015.p]
      exact (kwrite_ok n (d15.below hW.2) 0 (by omega) vo _ (by simp [hml]) hW.1.has (by omega) (by omega)).mono fun e w' ⟨g1, L', g2, g3⟩ => ⟨_, g1, rfl, L', g2.pre hW.2, g3⟩) ?_
      rintro _ ⟨_, rfl, _⟩
      rintro w16 ⟨_, L16, t16, d16⟩
      have t016 := t015.trans t16
      refine EW.on ?_; refine EW.seq ?_; refine EW.region ?_; refine WL.load rfl rfl rfl (ld55 (b2.fx t016.fx hqF)) ?_; refine WL.call [dkV L.p n] enter57 rfl rfl rfl (by rw [← t016.p]; exact kflush_ok n d16 (by omega)) ?_
      rintro _ w17 ⟨rfl, L17, t17, d17⟩
      have t017 := t016.trans t17
      refine ⟨_, rfl, ?_⟩; refine WL.done ?_; refine EW.on ?_; refine EW.seq ?_; refine EW.region ?_; refine WL.load rfl rfl rfl (ld55 (b2.fx t017.fx hqF)) ?_; refine WL.call [dkV L.p n, .int .i64 ((0 : Nat) : Int)] enter66 rfl rfl rfl (by rw [← t017.p]; exact blank_ok n d17 0 (by omega) (by omega) (by omega)) ?_
      rintro _ w18 ⟨rfl, L18, t18, d18⟩
      have t018 := t017.trans t18
      refine ⟨_, rfl, ?_⟩
      obtain ⟨S2, hS2⟩ : ∃ S2, setS (setS (l.foldl (hm1 n) S1) 0 ((mkB l).set 511 0)) 0 zS = S2 := ⟨_, rfl⟩
      rw [hS2, show c + 2 * l.length + 3 + 2 * l.length + 1 + 1 + 1 + 1 = c + 4 * l.length + 7 + 2 * 0 by omega, show 0 + 1 = 1 + 2 * 0 by rfl] at d18
      refine WL.done ?_; refine EW.on ?_; refine EW.seq ?_; refine EW.seq ?_; refine EW.region ?_; refine WL.move rfl rfl rfl ?_; refine WL.len rfl rfl rfl (p2.len _ _) ?_; refine WL.move rfl rfl rfl ?_; refine WL.done ?_; refine EW.on ?_; refine EW.block ?_; refine EW.loop (chE q v u 60 62 l.length) (ChR w2 L N 1 (c + 4 * l.length + 7) bl1 S2 l) (fun x => l.length - x.1) (0, L18) [1, 2, 4, 60, 61, 62] rfl ⟨t018, d18, Nat.zero_le _⟩ ?_
      rintro ⟨t, Li⟩ wi ⟨ti, di, hle⟩
      simp only at ti di hle
      obtain ⟨S, hS⟩ : ∃ S, (l.take t).foldl bl1 S2 = S := ⟨_, rfl⟩
      rw [hS] at di
      show EW _ _ _ _ [(1, v), (2, .pointer (some ⟨q, 0, none⟩)), (4, u), (60, v), (61, .int .i64 (l.length : Int)), (62, .int .i64 (t : Int))] _
      refine EW.seq ?_; refine EW.region ?_
      first | refine WL.bin rfl rfl rfl rfl (int_lt_t ‹_› _ _ _) ?_ | refine WL.bin rfl rfl rfl rfl (int_lt_f ‹_› _ _ _) ?_ | refine WL.bin rfl rfl rfl rfl (int_lt_d _ _ _ _ _) ?_
      refine WL.done ?_; refine EW.on ?_; refine EW.seq ?_; refine EW.cond_d rfl (fun h63 => ?_) (fun h63 => ?_)
      · refine EW.skip ?_; refine EW.on ?_; refine EW.seq ?_; refine EW.block ?_; refine EW.seq ?_
        have ht : t < l.length := by omega
        have tn : IntKind.i64.wrap ((t : Int) + 1) = ((t + 1 : Nat) : Int) := by rw [IntKind.wrap_i64]; omega
        refine EW.region ?_
        obtain ⟨x, hx⟩ : ∃ x, l[t]? = some x := ⟨_, List.getElem?_eq_getElem ht⟩
        have hxm := List.mem_of_getElem? hx
        have hxn := hn x hxm
        have pi := p2.fx ti.fx hvF hxF
        have bi := b2.fx ti.fx hqF
        obtain ⟨ad, ix, lx⟩ := pi.item hx
        refine WL.index rfl rfl rfl rfl (ix _) ?_; refine WL.load rfl rfl rfl lx ?_
        obtain ⟨wv, w3, q3, r3, s3, b3, e3, hq3⟩ := var111 x (pi.has x hxm)
        refine WL.new rfl rfl r3 ?_
        have p3 := pi.below e3
        have bi3 := bi.on e3
        have d3 := di.below e3
        have hxb := (p3.has x hxm).2
        refine WL.store rfl rfl rfl s3 ?_; refine WL.done ?_; refine EW.on ?_; refine EW.seq ?_; refine EW.ordB [(0, 0, 1), (1, 0, 1), (2, 0, 0), (3, 0, 1), (4, 1, 1), (5, 1, 0)] (by kernel_rfl) rfl (by kernel_rfl) ?_; simp only [opsZ, List.getD_cons_zero, List.getD_cons_succ]; refine ZE.load rfl rfl rfl rfl sz1 (fun W hW => ld55 (bi3.on (sb_of hW))) ?_; refine ZE.load rfl rfl rfl rfl sz1 (fun W hW => ld55 (bi3.on (sb_of hW))) ?_; refine ZE.field rfl rfl rfl rfl sz0 (fun W => fld111_0 q3 W) ?_; refine ZE.load rfl rfl rfl rfl sz1 (fun W hW => ldpn (b3.on (sb_of hW))) ?_; refine ZE.callR [dkV L.p n, .int .i64 (x.n : Int)] (fun v W => v = .int .i64 ((1 + 2 * x.n : Nat) : Int) ∧ Below w3.heap.size w3 W) enter63 rfl rfl rfl (fun _ _ h => .inr h.2) (fun W hW => (slot_any L.p n x.n W (by omega)).mono fun e w' ⟨g1, g2⟩ => ⟨_, g1, rfl, hW.trans (g2.mono hW.size)⟩) ?_
        rintro _ ⟨_, rfl, _⟩
        refine ZE.callR [dkV L.p n, .int .i64 ((1 + 2 * x.n : Nat) : Int)] (fun v W => v = .tuple #[] ∧ ∃ L', Turn w3 W Li L' ∧ Dk W L' N (setS S (1 + 2 * x.n) zS) (1 + 2 * t + 1) (c + 4 * l.length + 7 + 2 * t + 1)) enter66 rfl rfl rfl (fun _ _ _ => .inl rfl) (fun W hW => by
      rw [← ti.p]
      exact (blank_ok n (d3.below hW.2) (1 + 2 * x.n) (by omega) (by omega) (by omega)).mono fun e w' ⟨g1, L', g2, g3⟩ => ⟨_, g1, rfl, L', g2.pre hW.2, g3⟩) ?_
        rintro _ ⟨_, rfl, _⟩
        rintro w4 ⟨_, L4, t4, d4⟩
        refine EW.on ?_
        have a77 : IntKind.i64.wrap (((1 + 2 * x.n : Nat) : Int) + 1) = ((1 + 2 * x.n + 1 : Nat) : Int) := by rw [IntKind.wrap_i64]; omega
        have b4 := b3.fx t4.fx (fun hF => by have := di.lt _ hF; omega)
        have bi4 := bi3.fx t4.fx (fun hF => (ti.own q hF).elim hqF (fun h2 => by have := b2.lt; omega))
        refine EW.ordB [(0, 0, 1), (1, 0, 1), (2, 0, 0), (3, 0, 1), (4, 1, 1), (5, 0, 0), (6, 1, 0)] (by kernel_rfl) rfl (by kernel_rfl) ?_; simp only [opsZ, List.getD_cons_zero, List.getD_cons_succ]; refine ZE.load rfl rfl rfl rfl sz1 (fun W hW => ld55 (bi4.on (sb_of hW))) ?_; refine ZE.load rfl rfl rfl rfl sz1 (fun W hW => ld55 (bi4.on (sb_of hW))) ?_; refine ZE.field rfl rfl rfl rfl sz0 (fun W => fld111_0 q3 W) ?_; refine ZE.load rfl rfl rfl rfl sz1 (fun W hW => ldpn (b4.on (sb_of hW))) ?_; refine ZE.callR [dkV L.p n, .int .i64 (x.n : Int)] (fun v W => v = .int .i64 ((1 + 2 * x.n : Nat) : Int) ∧ Below w4.heap.size w4 W) enter63 rfl rfl rfl (fun _ _ h => .inr h.2) (fun W hW => (slot_any L.p n x.n W (by omega)).mono fun e w' ⟨g1, g2⟩ => ⟨_, g1, rfl, hW.trans (g2.mono hW.size)⟩) ?_
        rintro _ ⟨_, rfl, _⟩
        refine ZE.bin rfl rfl rfl rfl rfl sz0 (fun W => int_add a77 W _ _) ?_
        refine ZE.callR [dkV L.p n, .int .i64 ((1 + 2 * x.n + 1 : Nat) : Int)] (fun v W => v = .tuple #[] ∧ ∃ L', Turn w4 W L4 L' ∧ Dk W L' N (bl1 S x) (1 + 2 * t + 1 + 1) (c + 4 * l.length + 7 + 2 * t + 1 + 1)) enter66 rfl rfl rfl (fun _ _ _ => .inl rfl) (fun W hW => by
      rw [← ti.p, ← t4.p]
      exact (blank_ok n (d4.below hW.2) (1 + 2 * x.n + 1) (by omega) (by omega) (by omega)).mono fun e w' ⟨g1, L', g2, g3⟩ => ⟨_, g1, rfl, L', g2.pre hW.2, g3⟩) ?_
        rintro _ ⟨_, rfl, _⟩
        rintro wz ⟨_, Lz, tz, dz⟩
        replace tz := (t4.trans tz).pre e3
        refine pn_block ?_; refine EW.on ?_; refine EW.region ?_; refine WL.bin rfl rfl rfl rfl (int_add ‹_› _ _ _) ?_; refine WL.move rfl rfl rfl ?_; refine WL.done ?_; refine EW.again (E := chE q v u 60 62 l.length) (R := ChR w2 L N 1 (c + 4 * l.length + 7) bl1 S2 l) (m := fun x => l.length - x.1) (x := (t, Li)) (t + 1, Lz) [1, 2, 4, 60, 61, 62] rfl ⟨ti.trans tz, by rw [fold_snoc bl1 S2 hx, hS]; exact dz, by show t + 1 ≤ _; omega⟩ (by show _ - (t + 1) < _ - t; omega)
      · refine EW.exit ?_; refine px_then ?_; refine px_then ?_; refine px_block ?_; refine EW.on ?_
        have hte : t = l.length := by omega
        refine EW.region ?_; refine WL.load rfl rfl rfl (ld55 (b2.fx ti.fx hqF)) ?_; refine WL.call [dkV L.p n] enter57 rfl rfl rfl (by rw [← ti.p]; exact kflush_ok n di (by omega)) ?_
        rintro _ w25 ⟨rfl, L25, t25, d25⟩
        have t025 := ti.trans t25
        refine ⟨_, rfl, ?_⟩; refine WL.done ?_
        exact EW.falls Tryz.results44 ⟨rfl, L25, t025.pre e12, by rw [← hS, hte, List.take_length, ← hS2, ← hS1, show c + 4 * l.length + 7 + 2 * l.length + 1 = c + 6 * l.length + 8 by omega] at d25; exact d25⟩
end Go.Proofs.YtmbgeojjklboeaaGreatDoor
