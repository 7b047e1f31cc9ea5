import Derived.Test.YtmbgeojjklboeaaGreatDoorZj
import Derived.Test.YtmbgeojjklboeaaGreatDoorQg
set_option linter.unusedVariables false
set_option linter.unusedSimpArgs false
namespace Go.Proofs.YtmbgeojjklboeaaGreatDoor
open Go.RowKit

set_option maxRecDepth 100000 in
set_option maxHeartbeats 1000000 in
theorem sort_any {w : World} {v : Value} {l : List Pw} (h : Pws w v l) (hs : Apt v l) (hl : l.length ≤ 40) (hxl : ∀ x ∈ l, ∀ k, x.v.ownBlock = some k → k < w.heap.size) (hvl : ∀ k, v.ownBlock = some k → k < w.heap.size) : Calls Tryz.prog 69 #[v, fnV] w fun e w' => e = .returned (.tuple #[]) ∧ ∃ l', Prm w v l w' l' := by
  refine calls_of_args [v, fnV] Tryz.func69 rfl 14 Tryz.ntmps69 (by show 2 ≤ 14; decide) ?_; refine EW.seq ?_; refine EW.region ?_; refine WL.move rfl rfl rfl ?_; refine WL.len rfl rfl rfl (h.len _ _) ?_; refine WL.assign rfl rfl rfl ?_; refine WL.done ?_; refine EW.on ?_; refine EW.region ?_; refine WL.move rfl rfl rfl ?_; refine WL.move rfl rfl rfl ?_; refine WL.move rfl rfl rfl ?_; refine WL.conv rfl rfl rfl (conv3140 l.length (by omega) _) ?_; refine WL.call [.int .u64 (l.length : Int)] enter82 rfl rfl rfl (len_any l.length (by omega) _) ?_
  rintro _ w1 ⟨rfl, rfl⟩
  refine ⟨_, rfl, ?_⟩; refine WL.move rfl rfl rfl ?_; refine WL.call [v, .int .i64 ((0 : Nat) : Int), .int .i64 (l.length : Int), .int .i64 (lenT l.length : Int), fnV] enter81 rfl rfl rfl (pdq_any v l.length h hs hl hxl hvl 0 l.length (lenT l.length) (Nat.zero_le _) (Nat.le_refl _) (Nat.le_refl _) (by have := lenT8 l.length (by omega); omega)) ?_
  rintro _ w2 ⟨rfl, l2, p2⟩
  refine ⟨_, rfl, ?_⟩; refine WL.done ?_
  exact EW.falls Tryz.results69 ⟨rfl, l2, p2⟩
theorem Pws.lt {w : World} {v : Value} {l : List Pw} (h : Pws w v l) {k : Nat} (hk : v.ownBlock = some k) : k < w.heap.size := by
  obtain ⟨_, ⟨rfl, _⟩ | ⟨g, cp, cur, rfl, hg, hh2, _⟩⟩ := h.row
  · cases hk
  · simp only [Value.ownBlock, Option.some.injEq] at hk
    subst hk
    rcases Nat.lt_or_ge g w.heap.size with hl | hl
    · exact hl
    · rw [Array.getElem?_eq_none hl] at hh2; cases hh2
set_option maxRecDepth 100000 in
set_option maxHeartbeats 1000000 in
theorem rising_any {w : World} {g cp : Nat} {l : List Pw} (hp : Pws w (.slice (some ⟨g, 0, none⟩) l.length cp) l) (hl : l.length ≤ 40) (hxl : ∀ x ∈ l, ∀ k, x.v.ownBlock = some k → k < w.heap.size) : Calls Tryz.prog 45 #[.slice (some ⟨g, 0, none⟩) l.length cp] w fun e w' => ∃ u l', e = .returned u ∧ l'.Perm l ∧ Pws w' u l' ∧ Below w.heap.size w w' ∧ (∀ k, u.ownBlock = some k → w.heap.size ≤ k) := by
  refine calls_of_args [.slice (some ⟨g, 0, none⟩) l.length cp] Tryz.func45 rfl 9 Tryz.ntmps45 (by show 1 ≤ 9; decide) ?_; refine EW.seq ?_; refine EW.region ?_; refine WL.assign rfl rfl rfl ?_; refine WL.done ?_; refine EW.on ?_; refine EW.seq ?_; refine EW.region ?_; refine WL.move rfl rfl rfl ?_; refine WL.call [.slice (some ⟨g, 0, none⟩) l.length cp] enter68 rfl rfl rfl (clonep_any hp (by omega)) ?_
  rintro _ w1 ⟨u, rfl, p1, e1, hf1⟩
  refine ⟨_, rfl, ?_⟩
  have hul : ∀ k, u.ownBlock = some k → k < w1.heap.size := fun k hk => p1.lt hk
  refine WL.assign rfl rfl rfl ?_; refine WL.done ?_; refine EW.on ?_; refine EW.seq ?_; refine EW.region ?_; refine WL.move rfl rfl rfl ?_; refine WL.call [u, fnV] enter69 rfl rfl rfl (sort_any p1 (fun x hm k hk hx => by have := hf1 k hk; have := hxl x hm k hx; omega) hl (fun x hm k hk => by have := hxl x hm k hk; have := e1.size; omega) hul) ?_
  rintro _ w2 ⟨rfl, l2, p2⟩
  refine ⟨_, rfl, ?_⟩; refine WL.done ?_; refine EW.on ?_; refine EW.seq ?_; refine EW.region ?_; refine WL.move rfl rfl rfl ?_; refine WL.assign rfl rfl rfl ?_; refine WL.done ?_; refine EW.on ?_; refine EW.ret ?_
  exact EW.returns Tryz.results45 rfl ⟨_, l2, rfl, p2.p, p2.r, e1.trans (p2.f.below (fun k hk e => by have := hf1 k e; omega) e1.size), hf1⟩
set_option maxRecDepth 100000 in
set_option maxHeartbeats 1000000 in
theorem commit_ok {w : World} {L : Lay} {N : Nat} {s : Nat → List UInt8} {c n q : Nat} (h : Dk w L N s 0 c) (hb : Blk w q (lgC L.p n .nilIface) 88) (hnN : 4 * n + 1 ≤ N) (hN : N ≤ 4096) (hn2 : n ≤ 250) (hcal : c ≤ 900000) {g cp : Nat} {l : List Pw} (hp : Pws w (.slice (some ⟨g, 0, none⟩) l.length cp) l) (hl0 : 0 < l.length) (hl : l.length ≤ 40) (hx : ∀ x ∈ l, x.n < n) (hd : (l.map Pw.n).Nodup) (hxF : ∀ x ∈ l, ∀ k, x.v.ownBlock = some k → ¬ L.F k) (hxB : ∀ x ∈ l, ∀ k, x.v.ownBlock = some k → k < w.heap.size) : Calls Tryz.prog 14 #[.pointer (some ⟨q, 0, none⟩), .slice (some ⟨g, 0, none⟩) l.length cp] w fun e w' => e = .returned .nilIface ∧ ∃ L' l', l'.Perm l ∧ Turn w w' L L' ∧ Dk w' L' N (chS n s l') 0 (c + 6 * l.length + 8) := by
  refine calls_of_argsD [.pointer (some ⟨q, 0, none⟩), .slice (some ⟨g, 0, none⟩) l.length cp] Tryz.func14 rfl 35 Tryz.ntmps14 (by show 2 ≤ 35; decide) ?_; refine EW.seq ?_; refine EW.region ?_
  obtain ⟨w1, q1, r1, b1, e1, hq1, z1⟩ := box22 (some ⟨q, 0, none⟩) w
  refine WL.box rfl rfl rfl r1 ?_
  obtain ⟨w3, q3, r3, b3, e3, hq3, z3⟩ := new24 w1
  have e03 := e1.trans (e3.mono e1.size)
  have h3 := h.below e03
  have g3 := hb.on e03
  have p3 := hp.below e03
  have b13 := b1.on e3
  have hF : ∀ k, w.heap.size ≤ k → ¬ L.F k := fun k hk hF => by have := h.lt _ hF; omega
  refine WL.new rfl rfl r3 ?_; refine WL.done ?_; refine EW.on ?_; refine EW.seq ?_; refine EW.region ?_; refine WL.mkf [.pointer (some ⟨q1, 0, none⟩), .pointer (some ⟨q3, 0, none⟩)] rfl rfl rfl ?_; refine WL.defer rfl rfl ?_; refine WL.done ?_; refine EW.on ?_; refine EW.seq ?_; refine EW.seq ?_; refine EW.region ?_; refine WL.load rfl rfl rfl (ld22c b13) ?_; refine WL.nilc rfl rfl rfl ?_; refine WL.field rfl rfl rfl (fld66_1 q _) ?_; refine WL.load rfl rfl rfl (ldl24 g3) ?_; refine WL.bin rfl rfl rfl rfl (ne24n _ _) ?_; refine WL.done ?_; refine EW.on ?_; refine EW.cond_f rfl ?_; refine EW.skip ?_; refine EW.on ?_; refine EW.seq ?_; refine EW.seq ?_; refine EW.region ?_; refine WL.load rfl rfl rfl (ld22c b13) ?_; refine WL.move rfl rfl rfl ?_; refine WL.call [.pointer (some ⟨q, 0, none⟩), .slice (some ⟨g, 0, none⟩) l.length cp] enter43 rfl rfl rfl (refusal_ok g3 _ l p3 (by omega) hx (by omega) hd) ?_
  rintro _ w4 ⟨rfl, e4⟩
  have e04 := e03.trans (e4.mono e03.size)
  have h4 := h.below e04
  have g4 := g3.on e4
  have p4 := p3.below e4
  have b14 := b13.on e4
  have b34 := b3.on e4
  refine ⟨_, rfl, ?_⟩; refine WL.move rfl rfl rfl ?_; refine WL.extract rfl rfl rfl (ext_2 _ _ _).1 ?_; refine WL.extract rfl rfl rfl (ext_2 _ _ _).2 ?_; refine WL.assign rfl rfl rfl ?_; refine WL.assign rfl rfl rfl ?_; refine WL.done ?_; refine EW.on ?_; refine EW.seq ?_; refine EW.region ?_; refine WL.move rfl rfl rfl ?_; refine WL.bin rfl rfl rfl rfl (int_ne_f rfl _ _ _) ?_; refine WL.done ?_; refine EW.on ?_; refine EW.cond_f rfl ?_; refine EW.skip ?_; refine EW.on ?_; refine EW.seq ?_; refine EW.seq ?_; refine EW.region ?_; refine WL.move rfl rfl rfl ?_; refine WL.len rfl rfl rfl (p4.len _ _) ?_; refine WL.bin rfl rfl rfl rfl (int_gt_t (by omega) _ _ _) ?_; refine WL.done ?_; refine EW.on ?_; refine EW.cond_t rfl ?_; refine EW.ordB [(0, 0, 1), (1, 0, 0), (2, 0, 0), (3, 0, 1), (4, 0, 0), (5, 1, 1), (6, 1, 0)] (by kernel_rfl) rfl (by kernel_rfl) ?_; simp only [opsZ, List.getD_cons_zero, List.getD_cons_succ]; refine ZE.load rfl rfl rfl rfl sz1 (fun W hW => ld22c (b14.on (sb_of hW))) ?_; refine ZE.nilc rfl rfl rfl rfl sz0 ?_; refine ZE.field rfl rfl rfl rfl sz0 (fun W => fld66_0 q W) ?_; refine ZE.load rfl rfl rfl rfl sz1 (fun W hW => ldl55 (g4.on (sb_of hW))) ?_; refine ZE.move rfl rfl rfl rfl sz0 ?_; refine ZE.callR [.slice (some ⟨g, 0, none⟩) l.length cp] (fun v W => (∃ l', l'.Perm l ∧ Pws W v l' ∧ ∀ k, v.ownBlock = some k → w4.heap.size ≤ k) ∧ Below w4.heap.size w4 W) enter45 rfl rfl rfl (fun _ _ h => .inr h.2) (fun W hW => (rising_any (p4.below hW) hl (fun y hy k hk => by have := hxB y hy k hk; have := e04.size; have := hW.size; omega)).mono fun e w' ⟨u, l', g1, g0, g2, g3, g4⟩ => ⟨u, g1, ⟨l', g0, g2, fun k hk => Nat.le_trans hW.size (g4 k hk)⟩, hW.trans (g3.mono hW.size)⟩) ?_
  rintro vs ⟨_, _, _⟩
  refine ZE.callR [dkV L.p n, vs] (fun v W => v = .tuple #[] ∧ ∃ L' l', l'.Perm l ∧ Turn w4 W L L' ∧ Dk W L' N (chS n s l') 0 (c + 6 * l.length + 8)) enter44 rfl rfl rfl (fun _ _ _ => .inl rfl) (fun W hW => ?_) ?_
  · obtain ⟨⟨l', hl', hpw, hvs⟩, hbW⟩ := hW
    refine (change_ok n (h4.below hbW) hnN (by omega) vs l' hpw (by rw [hl'.length_eq]; omega) (fun y hy => hx y (hl'.subset hy)) hn2 (fun k hk => hF k (Nat.le_trans e04.size (hvs k hk))) (fun y hy k hk => hxF y (hl'.subset hy) k hk) (fun y hy k hk => by have := hxB y (hl'.subset hy) k hk; have := e04.size; have := hbW.size; omega) (by omega)).mono fun e w' h => ?_
    obtain ⟨g1, L', g2, g3⟩ := h
    rw [hl'.length_eq] at g3
    exact ⟨_, g1, rfl, L', l', hl', g2.pre hbW, g3⟩
  rintro _ ⟨_, rfl, _⟩
  rintro w6 ⟨_, L6, l6, hl6, t6, d6⟩
  have b36 := b34.fx t6.fx (hF q3 (by omega))
  refine EW.on ?_; refine EW.seq ?_; refine EW.region ?_
  obtain ⟨w7, s7, b7, x7⟩ := st24n b36
  refine WL.store rfl rfl rfl s7 ?_; refine WL.done ?_; refine EW.on ?_; refine EW.ret ?_; refine EW.leaves enter41 (commit1_none _ _ _) ?_
  rintro u w' ⟨hu, hw⟩
  subst hu
  rw [hw]
  have t06 := t6.pre e04
  have h6F : ∀ k, L6.F k → ¬ k = q3 := fun k hk hh => (t6.own k hk).elim (hF k (by omega)) (fun h2 => by have := b34.lt; omega)
  refine ⟨rfl, fun a ha => ⟨_, results_c1 Tryz.results14 a.tmps w7 (ha.kn 4 _ rfl) (ld24c b7), rfl, L6, l6, hl6, ⟨t06.fx.trans x7 (fun k hk hh => by omega), t06.own, t06.p⟩, ?_⟩⟩
  obtain ⟨D, k1, k2⟩ := d6.ex
  exact ⟨D, k1.fx x7 h6F, k2⟩
end Go.Proofs.YtmbgeojjklboeaaGreatDoor

set_option linter.unusedVariables false
set_option linter.unusedSimpArgs false
namespace Go.Proofs.YtmbgeojjklboeaaGreatDoor
open Go.RowKit

def sCmt : ByteArray := { data := #[67, 111, 109, 109, 105, 116] }
theorem stlg {w : World} {q p n : Nat} {x : Value} (t : TypeId) (u : Value) (hb : Blk w q (lgC p n x) 88) : ∃ w', (Instr.storeAt 46 (.pointer (some ⟨q, 2, none⟩)) (.iface t u)).run Tryz.prog w = .ok () w' ∧ Blk w' q (lgC p n (.iface t u)) 88 ∧ Fx (fun k => k = q) w w' := by
  have hc : w.cell? ⟨q, 2, none⟩ = some x := hb.cell 2
  have hf := hb.frozen 2
  exact ⟨w.setCell ⟨q, 2, none⟩ (.iface t u), by go_simp, hb.set 2 _, Fx.setCell (S := fun k => k = q) _ _ _ _ rfl⟩
set_option maxRecDepth 100000 in
set_option maxHeartbeats 1000000 in
theorem end_any {w : World} {q p n : Nat} {x : Value} (hb : Blk w q (lgC p n x) 88) (s : ByteArray) (c : Int) : Calls Tryz.prog 42 #[.pointer (some ⟨q, 0, none⟩), .string s, .int .i64 c] w fun e w' => ∃ u qf, e = .returned u ∧ u = .iface 109 (.pointer (some ⟨qf, 0, none⟩)) ∧ w.heap.size ≤ qf ∧ Blk w' qf (fltC s 0 c) 111 ∧ Blk w' q (lgC p n u) 88 ∧ Fx (fun k => k = q) w w' := by
  refine calls_of_args [.pointer (some ⟨q, 0, none⟩), .string s, .int .i64 c] Tryz.func42 rfl 17 Tryz.ntmps42 (by show 3 ≤ 17; decide) ?_; refine EW.seq ?_; refine EW.region ?_; refine WL.assign rfl rfl rfl ?_; refine WL.done ?_; refine EW.on ?_; refine EW.seq ?_; refine EW.region ?_; refine WL.move rfl rfl rfl ?_; refine WL.move rfl rfl rfl ?_; refine WL.move rfl rfl rfl ?_; refine WL.call [.string s, .int .i64 0, .int .i64 c] enter30 rfl rfl rfl (wfault_any s 0 c _) ?_
  rintro _ w2 ⟨_, rfl, ⟨q2, hv2, f2⟩, e2, hu2⟩
  subst hv2
  injection hu2 with _ hu3
  injection hu3 with hu4
  injection hu4 with hu5
  injection hu5 with hu6
  have b2 := hb.on e2
  refine ⟨_, rfl, ?_⟩; refine WL.nilc rfl rfl rfl ?_; refine WL.field rfl rfl rfl (fld66_1 q _) ?_
  obtain ⟨w3, s3, b3, x3⟩ := stlg 109 (.pointer (some ⟨q2, 0, none⟩)) b2
  refine WL.store rfl rfl rfl s3 ?_; refine WL.done ?_; refine EW.on ?_; refine EW.seq ?_; refine EW.region ?_; refine WL.move rfl rfl rfl ?_; refine WL.nilc rfl rfl rfl ?_; refine WL.field rfl rfl rfl (fld66_1 q _) ?_; refine WL.load rfl rfl rfl (ldl24 b3) ?_; refine WL.assign rfl rfl rfl ?_; refine WL.done ?_; refine EW.on ?_; refine EW.ret ?_
  exact EW.returns Tryz.results42 rfl ⟨_, q2, rfl, rfl, by omega, f2.fx x3 (fun e => by have := hb.lt; omega), b3, (Fx.of_below e2).trans x3 (fun _ _ h => h)⟩
set_option maxRecDepth 100000 in
set_option maxHeartbeats 1000000 in
theorem commit1_some {w : World} {ql q1 qe p n : Nat} {x ve : Value} (c : Int) (hc0 : ¬ c = 0) (b0 : Blk w q1 [.pointer (some ⟨ql, 0, none⟩)] 37) (b1 : Blk w ql (lgC p n x) 88) (b2 : Blk w qe [ve] 46) (n12 : ql ≠ qe) : CallsD Tryz.prog 41 #[.pointer (some ⟨q1, 0, none⟩), .pointer (some ⟨qe, 0, none⟩)] (.panicking [{ v := surV c, recovered := false }]) w fun x u w' => (∃ v, x = .returned v) ∧ u = .panicking [{ v := surV c, recovered := true }] ∧ (Fx (fun k => k = ql ∨ k = qe) w w' ∧ ∃ u qf, u = .iface 109 (.pointer (some ⟨qf, 0, none⟩)) ∧ w.heap.size ≤ qf ∧ Blk w' qe [u] 46 ∧ Blk w' ql (lgC p n u) 88 ∧ Blk w' qf (fltC sCmt 0 c) 111) := by
  refine callsD_of_args [.pointer (some ⟨q1, 0, none⟩), .pointer (some ⟨qe, 0, none⟩)] Tryz.func41 rfl 10 Tryz.ntmps41 (by show 2 ≤ 10; decide) (fun c₀ cs hc => ?_); refine ES.seq ?_; refine ES.region ?_; refine WS.recover rfl rfl rfl (recover_yes hc) ?_; refine WS.call [surV c] enter29 rfl rfl rfl rfl (caught_some c _) ?_
  rintro _ w1 ⟨rfl, e1⟩
  refine ⟨_, rfl, ?_⟩; refine WS.assign rfl rfl rfl rfl ?_; refine WS.on ?_; refine ES.of ?_; refine EW.seq ?_; refine EW.region ?_; refine WL.move rfl rfl rfl ?_; refine WL.bin rfl rfl rfl rfl (int_ne_t hc0 _ _ _) ?_; refine WL.done ?_; refine EW.on ?_; refine EW.cond_t rfl ?_; refine EW.region ?_; refine WL.load rfl rfl rfl (ld22c (b0.on e1)) ?_; refine WL.move rfl rfl rfl ?_; refine WL.call [.pointer (some ⟨ql, 0, none⟩), .string sCmt, .int .i64 c] enter42 rfl rfl rfl (end_any (b1.on e1) sCmt c) ?_
  rintro _ w2 ⟨u, qf, rfl, hu, hq, f2, l2, x2⟩
  refine ⟨_, rfl, ?_⟩
  subst hu
  obtain ⟨w3, s3, d3, x3⟩ := st24f 109 (.pointer (some ⟨qf, 0, none⟩)) ((b2.on e1).fx x2 (fun e => n12 e.symm))
  refine WL.store rfl rfl rfl s3 ?_; refine WL.done ?_
  intro a ha
  exact ⟨ha.df, .panicking [{ v := surV c, recovered := true }], rfl, _, by rw [results_none Tryz.results41], ⟨_, rfl⟩, rfl, ((Fx.of_below e1).trans x2 (fun k _ h => .inl h)).trans x3 (fun k _ h => .inr h), _, qf, rfl, Nat.le_trans e1.size hq, d3, l2.fx x3 n12, f2.fx x3 (fun e => by have := b2.lt; have := e1.size; omega)⟩
/-- The disk gave up, and the log at q tells it. -/
def GoneQ (w : World) (L : Lay) (q n N c : Nat) (X : (Nat → List UInt8) → Prop) (e : Ending) (w' : World) : Prop := ∃ u qf L' d' c', e = .returned u ∧ u = .iface 109 (.pointer (some ⟨qf, 0, none⟩)) ∧ w.heap.size ≤ qf ∧ Blk w' qf (fltC sCmt 0 80) 111 ∧ Blk w' q (lgC L.p n u) 88 ∧ Fx (fun k => L.F k ∨ k = q) w w' ∧ (∀ k, L'.F k → L.F k ∨ w.heap.size ≤ k) ∧ L'.p = L.p ∧ Dz w' L' N d' c' ∧ c' ≤ c ∧ (∀ i, i < N → (d' i).length = 512) ∧ ¬ L'.F qf ∧ X d'
theorem Gone.log {w w1 w2 w3 : World} {L : Lay} {q q3 qf n N c c2 : Nat} {u : Value} {X Y : (Nat → List UInt8) → Prop} (go : Gone w1 L N c X w2) (hb : Below w.heap.size w w1) (x : Fx (fun k => k = q ∨ k = q3) w2 w3) (hq : ¬ L.F q) (hql : q < w1.heap.size) (h3 : w.heap.size ≤ q3) (h3F : ¬ L.F q3) (h3l : q3 < w1.heap.size) (hu : u = .iface 109 (.pointer (some ⟨qf, 0, none⟩))) (hqf : w2.heap.size ≤ qf) (f : Blk w3 qf (fltC sCmt 0 80) 111) (g : Blk w3 q (lgC L.p n u) 88) (hc : c ≤ c2) (hX : ∀ d', X d' → Y d') : GoneQ w L q n N c2 Y (.returned u) w3 := by
  obtain ⟨L', d', c', t, dz, k3, k4, k5⟩ := go
  obtain ⟨D, k1, k2⟩ := dz.ex
  have hsz := hb.size
  have hsz2 := t.fx.size
  refine ⟨u, qf, L', d', c', rfl, hu, by omega, f, g, ((t.pre hb).fx.mono (fun k _ h => .inl h)).trans x (fun k hk h => ?_), (t.pre hb).own, t.p, ⟨D, k1.fx x (fun k hk hs => ?_), k2⟩, by omega, k4, fun hF => ?_, hX d' k5⟩
  · rcases h with h | h
    · exact .inr h
    · omega
  · rcases t.own k hk with h | h
    · rcases hs with e | e
      · rw [e] at h; exact hq h
      · rw [e] at h; exact h3F h
    · rcases hs with e | e <;> omega
  · have := k1.lt _ hF
    omega
set_option maxRecDepth 100000 in
set_option maxHeartbeats 4000000 in
theorem acommit {w : World} {L : Lay} {N : Nat} {d : Nat → List UInt8} {left c n q : Nat} (h : Da w L N d d [] left c) (hb : Blk w q (lgC L.p n .nilIface) 88) (hqF : ¬ L.F q) (hnN : 4 * n + 1 ≤ N) (hN : N ≤ 4096) (hn2 : n ≤ 250) (hcal : c ≤ 900000) {g cp : Nat} {l : List Pw} (hp : Pws w (.slice (some ⟨g, 0, none⟩) l.length cp) l) (hl0 : 0 < l.length) (hl : l.length ≤ 40) (hx : ∀ x ∈ l, x.n < n) (hd : (l.map Pw.n).Nodup) (hxF : ∀ x ∈ l, ∀ k, x.v.ownBlock = some k → ¬ L.F k) (hxB : ∀ x ∈ l, ∀ k, x.v.ownBlock = some k → k < w.heap.size) : Calls Tryz.prog 14 #[.pointer (some ⟨q, 0, none⟩), .slice (some ⟨g, 0, none⟩) l.length cp] w fun e w' => (e = .returned .nilIface ∧ (left = 0 ∨ 6 * l.length + 8 < left) ∧ ∃ L' l', l'.Perm l ∧ Turn w w' L L' ∧ Da w' L' N (chS n d l') (chS n d l') [] (left - (6 * l.length + 8)) (c + 6 * l.length + 8)) ∨ GoneQ w L q n N (c + 6 * l.length + 8) (fun d' => ∃ l' : List Pw, l'.Perm l ∧ ChX n N d l' left d') e w' := by
  refine calls_of_argsD [.pointer (some ⟨q, 0, none⟩), .slice (some ⟨g, 0, none⟩) l.length cp] Tryz.func14 rfl 35 Tryz.ntmps14 (by show 2 ≤ 35; decide) ?_; refine EW.seq ?_; refine EW.region ?_
  obtain ⟨w1, q1, r1, b1, e1, hq1, z1⟩ := box22 (some ⟨q, 0, none⟩) w
  refine WL.box rfl rfl rfl r1 ?_
  obtain ⟨w3, q3, r3, b3, e3, hq3, z3⟩ := new24 w1
  have e03 := e1.trans (e3.mono e1.size)
  have h3 := h.below e03
  have g3 := hb.on e03
  have p3 := hp.below e03
  have b13 := b1.on e3
  have hF : ∀ k, w.heap.size ≤ k → ¬ L.F k := fun k hk hF => by have := h.F _ hF; omega
  refine WL.new rfl rfl r3 ?_; refine WL.done ?_; refine EW.on ?_; refine EW.seq ?_; refine EW.region ?_; refine WL.mkf [.pointer (some ⟨q1, 0, none⟩), .pointer (some ⟨q3, 0, none⟩)] rfl rfl rfl ?_; refine WL.defer rfl rfl ?_; refine WL.done ?_; refine EW.on ?_; refine EW.seq ?_; refine EW.seq ?_; refine EW.region ?_; refine WL.load rfl rfl rfl (ld22c b13) ?_; refine WL.nilc rfl rfl rfl ?_; refine WL.field rfl rfl rfl (fld66_1 q _) ?_; refine WL.load rfl rfl rfl (ldl24 g3) ?_; refine WL.bin rfl rfl rfl rfl (ne24n _ _) ?_; refine WL.done ?_; refine EW.on ?_; refine EW.cond_f rfl ?_; refine EW.skip ?_; refine EW.on ?_; refine EW.seq ?_; refine EW.seq ?_; refine EW.region ?_; refine WL.load rfl rfl rfl (ld22c b13) ?_; refine WL.move rfl rfl rfl ?_; refine WL.call [.pointer (some ⟨q, 0, none⟩), .slice (some ⟨g, 0, none⟩) l.length cp] enter43 rfl rfl rfl (refusal_ok g3 _ l p3 (by omega) hx (by omega) hd) ?_
  rintro _ w4 ⟨rfl, e4⟩
  have e04 := e03.trans (e4.mono e03.size)
  have h4 := h.below e04
  have g4 := g3.on e4
  have p4 := p3.below e4
  have b14 := b13.on e4
  have b34 := b3.on e4
  refine ⟨_, rfl, ?_⟩; refine WL.move rfl rfl rfl ?_; refine WL.extract rfl rfl rfl (ext_2 _ _ _).1 ?_; refine WL.extract rfl rfl rfl (ext_2 _ _ _).2 ?_; refine WL.assign rfl rfl rfl ?_; refine WL.assign rfl rfl rfl ?_; refine WL.done ?_; refine EW.on ?_; refine EW.seq ?_; refine EW.region ?_; refine WL.move rfl rfl rfl ?_; refine WL.bin rfl rfl rfl rfl (int_ne_f rfl _ _ _) ?_; refine WL.done ?_; refine EW.on ?_; refine EW.cond_f rfl ?_; refine EW.skip ?_; refine EW.on ?_; refine EW.seq ?_; refine EW.seq ?_; refine EW.region ?_; refine WL.move rfl rfl rfl ?_; refine WL.len rfl rfl rfl (p4.len _ _) ?_; refine WL.bin rfl rfl rfl rfl (int_gt_t (by omega) _ _ _) ?_; refine WL.done ?_; refine EW.on ?_; refine EW.cond_t rfl ?_
  refine EW.ordPK [(0, 0, 1), (1, 0, 0), (2, 0, 0), (3, 0, 1), (4, 0, 0), (5, 1, 1), (6, 1, 0)] (SB w4) (fun W => Below w4.heap.size w4 W) [2, 4] rfl (Rp := fun ch W => ch = sur ∧ Gone w4 L N (c + 6 * l.length + 8) (fun d' => ∃ l' : List Pw, l'.Perm l ∧ ChX n N d l' left d') W) (fun ch W h => by
    obtain ⟨rfl, go⟩ := h
    repeat (first | refine pp_then ?_ | refine pp_block ?_)
    obtain ⟨Lz, dz, cz, tz, _⟩ := id go
    refine EW.caught enter41 (commit1_some 80 (by decide) (b14.fx tz.fx (hF q1 (by omega))) (g4.fx tz.fx hqF) (b34.fx tz.fx (hF q3 (by omega))) (by have := hb.lt; omega)) ?_
    rintro w5 ⟨x5, u, qf, hu, hqf, k1, k2, k3⟩ a ha
    exact ⟨_, results_c1 Tryz.results14 a.tmps w5 (ha.kn 4 _ rfl) (ld24c k1), .inr (go.log e04 x5 hqF (by have := hb.lt; have := e04.size; omega) (by omega) (hF q3 (by omega)) b34.lt hu hqf k3 k2 (Nat.le_refl _) (fun _ h => h))⟩) (by kernel_rfl) rfl (by kernel_rfl) (sb_anti w4) (below_drawn w4) ?_
  simp only [opsZ, List.getD_cons_zero, List.getD_cons_succ]; refine ZE.load rfl rfl rfl rfl sz1 (fun W hW => ld22c (b14.on (sb_of hW))) ?_; refine ZE.nilc rfl rfl rfl rfl sz0 ?_; refine ZE.field rfl rfl rfl rfl sz0 (fun W => fld66_0 q W) ?_; refine ZE.load rfl rfl rfl rfl sz1 (fun W hW => ldl55 (g4.on (sb_of hW))) ?_; refine ZE.move rfl rfl rfl rfl sz0 ?_; refine ZE.callR [.slice (some ⟨g, 0, none⟩) l.length cp] (fun v W => (∃ l', l'.Perm l ∧ Pws W v l' ∧ ∀ k, v.ownBlock = some k → w4.heap.size ≤ k) ∧ Below w4.heap.size w4 W) enter45 rfl rfl rfl (fun _ _ h => .inr h.2) (fun W hW => (rising_any (p4.below hW) hl (fun y hy k hk => by have := hxB y hy k hk; have := e04.size; have := hW.size; omega)).mono fun e w' ⟨u, l', g1, g0, g2, g3, g4⟩ => ⟨u, g1, ⟨l', g0, g2, fun k hk => Nat.le_trans hW.size (g4 k hk)⟩, hW.trans (g3.mono hW.size)⟩) ?_
  rintro vs ⟨_, _, _⟩
  refine ZE.callRP [dkV L.p n, vs] (fun v W => v = .tuple #[] ∧ (left = 0 ∨ 6 * l.length + 8 < left) ∧ ∃ L' l', l'.Perm l ∧ Turn w4 W L L' ∧ Da W L' N (chS n d l') (chS n d l') [] (left - (6 * l.length + 8)) (c + 6 * l.length + 8)) enter44 rfl rfl rfl (fun _ _ _ => .inl rfl) (fun W hW => ?_) ?_
  · obtain ⟨⟨l', hl', hpw, hvs⟩, hbW⟩ := hW
    refine (achange n (h4.below hbW) hnN (by omega) vs l' hpw (by rw [hl'.length_eq]; omega) ((hl'.map Pw.n).nodup_iff.2 hd) (fun y hy => hx y (hl'.subset hy)) hn2 (fun k hk => hF k (Nat.le_trans e04.size (hvs k hk))) (fun y hy k hk => hxF y (hl'.subset hy) k hk) (fun y hy k hk => by have := hxB y (hl'.subset hy) k hk; have := e04.size; have := hbW.size; omega) (by omega)).mono fun e w' h => ?_
    rw [hl'.length_eq] at h
    rcases h with ⟨g0, g1, L', g2, g3⟩ | ⟨g1, g2⟩
    · exact .inl ⟨_, g1, rfl, g0, L', l', hl', g2.pre hbW, g3⟩
    · exact .inr ⟨_, g1, rfl, (g2.pre hbW).mono (Nat.le_refl _) (fun d' _ hx => ⟨l', hl', hx⟩)⟩
  rintro _ ⟨_, rfl, _⟩
  rintro w6 ⟨_, hlf, L6, l6, hl6, t6, d6⟩
  have b36 := b34.fx t6.fx (hF q3 (by omega))
  refine EW.on ?_; refine EW.seq ?_; refine EW.region ?_
  obtain ⟨w7, s7, b7, x7⟩ := st24n b36
  refine WL.store rfl rfl rfl s7 ?_; refine WL.done ?_; refine EW.on ?_; refine EW.ret ?_; refine EW.leaves enter41 (commit1_none _ _ _) ?_
  rintro u w' ⟨hu, hw⟩
  subst hu
  rw [hw]
  have t06 := t6.pre e04
  have h6F : ∀ k, L6.F k → ¬ k = q3 := fun k hk hh => (t6.own k hk).elim (hF k (by omega)) (fun h2 => by have := b34.lt; omega)
  refine ⟨rfl, fun a ha => ⟨_, results_c1 Tryz.results14 a.tmps w7 (ha.kn 4 _ rfl) (ld24c b7), .inl ⟨rfl, hlf, L6, l6, hl6, ⟨t06.fx.trans x7 (fun k hk hh => by omega), t06.own, t06.p⟩, ?_⟩⟩⟩
  obtain ⟨D, k1, k2⟩ := d6.ex
  exact ⟨⟨D, k1.fx x7 h6F, k2⟩, d6.nd, d6.lt⟩
end Go.Proofs.YtmbgeojjklboeaaGreatDoor
