import Derived.Test.YtomioemhjhhbcaaGreatDoorZj
import Derived.Test.YtomioemhjhhbcaaGreatDoorYb
import Derived.Test.YtomioemhjhhbcaaGreatDoorYfG
set_option linter.unusedVariables false
set_option linter.unusedSimpArgs false
namespace Go.Proofs.YtomioemhjhhbcaaGreatDoor
open Go.RowKit

set_option maxRecDepth 100000 in
set_option maxHeartbeats 1000000 in
theorem sort_any {w : World} {v : Value} {l : List Pw} (h : Pws w v l) (hs : Apt v l) (hl : l.length ≤ 40) (hxl : ∀ x ∈ l, ∀ k, x.v.ownBlock = some k → k < w.heap.size) (hvl : ∀ k, v.ownBlock = some k → k < w.heap.size) : Calls Tryz.prog 61 #[v, fnV] w fun e w' => e = .returned (.tuple #[]) ∧ ∃ l', Prm w v l w' l' := by
  refine calls_of_args [v, fnV] Tryz.func61 rfl 14 Tryz.ntmps61 (by show 2 ≤ 14; decide) ?_
  refine EW.seq ?_
  refine EW.region ?_
  first | refine WL.move rfl rfl rfl ?_
  refine WL.len rfl rfl rfl (h.len _ _) ?_
  first | refine WL.assign rfl rfl rfl ?_
  refine WL.done ?_
  refine EW.on ?_
  refine EW.region ?_
  first | refine WL.move rfl rfl rfl ?_
  first | refine WL.move rfl rfl rfl ?_
  first | refine WL.move rfl rfl rfl ?_
  refine WL.conv rfl rfl rfl (conv3140 l.length (by omega) _) ?_
  refine WL.call [.int .u64 (l.length : Int)] enter78 rfl rfl rfl (len_any l.length (by omega) _) ?_
  rintro _ w1 ⟨rfl, rfl⟩
  refine ⟨_, rfl, ?_⟩
  first | refine WL.move rfl rfl rfl ?_
  refine WL.call [v, .int .i64 ((0 : Nat) : Int), .int .i64 (l.length : Int), .int .i64 (lenT l.length : Int), fnV] enter77 rfl rfl rfl (pdq_any v l.length h hs hl hxl hvl 0 l.length (lenT l.length) (Nat.zero_le _) (Nat.le_refl _) (Nat.le_refl _) (by have := lenT8 l.length (by omega); omega)) ?_
  rintro _ w2 ⟨rfl, l2, p2⟩
  refine ⟨_, rfl, ?_⟩
  refine WL.done ?_
  exact EW.falls Tryz.results61 ⟨rfl, l2, p2⟩
theorem Pws.lt {w : World} {v : Value} {l : List Pw} (h : Pws w v l) {k : Nat} (hk : v.ownBlock = some k) : k < w.heap.size := by
  obtain ⟨_, ⟨rfl, _⟩ | ⟨g, cp, cur, rfl, hg, hh2, _⟩⟩ := h.row
  · cases hk
  · simp only [Value.ownBlock, Option.some.injEq] at hk
    subst hk
    rcases Nat.lt_or_ge g w.heap.size with hl | hl
    · exact hl
    · rw [Array.getElem?_eq_none hl] at hh2; cases hh2
set_option maxRecDepth 100000 in
set_option maxHeartbeats 1000000 in
theorem rising_any {w : World} {g cp : Nat} {l : List Pw} (hp : Pws w (.slice (some ⟨g, 0, none⟩) l.length cp) l) (hl : l.length ≤ 40) (hxl : ∀ x ∈ l, ∀ k, x.v.ownBlock = some k → k < w.heap.size) : Calls Tryz.prog 32 #[.slice (some ⟨g, 0, none⟩) l.length cp] w fun e w' => ∃ u l', e = .returned u ∧ l'.Perm l ∧ Pws w' u l' ∧ Below w.heap.size w w' ∧ (∀ k, u.ownBlock = some k → w.heap.size ≤ k) := by
  refine calls_of_args [.slice (some ⟨g, 0, none⟩) l.length cp] Tryz.func32 rfl 9 Tryz.ntmps32 (by show 1 ≤ 9; decide) ?_
  refine EW.seq ?_
  refine EW.region ?_
  first | refine WL.assign rfl rfl rfl ?_
  refine WL.done ?_
  refine EW.on ?_
  refine EW.seq ?_
  refine EW.region ?_
  first | refine WL.move rfl rfl rfl ?_
  refine WL.call [.slice (some ⟨g, 0, none⟩) l.length cp] enter60 rfl rfl rfl (clonep_any hp (by omega)) ?_
  rintro _ w1 ⟨u, rfl, p1, e1, hf1⟩
  refine ⟨_, rfl, ?_⟩
  have hul : ∀ k, u.ownBlock = some k → k < w1.heap.size := fun k hk => p1.lt hk
  first | refine WL.assign rfl rfl rfl ?_
  refine WL.done ?_
  refine EW.on ?_
  refine EW.seq ?_
  refine EW.region ?_
  first | refine WL.move rfl rfl rfl ?_
  refine WL.call [u, fnV] enter61 rfl rfl rfl (sort_any p1 (fun x hm k hk hx => by have := hf1 k hk; have := hxl x hm k hx; omega) hl (fun x hm k hk => by have := hxl x hm k hk; have := e1.size; omega) hul) ?_
  rintro _ w2 ⟨rfl, l2, p2⟩
  refine ⟨_, rfl, ?_⟩
  refine WL.done ?_
  refine EW.on ?_
  refine EW.seq ?_
  refine EW.region ?_
  first | refine WL.move rfl rfl rfl ?_
  first | refine WL.assign rfl rfl rfl ?_
  refine WL.done ?_
  refine EW.on ?_
  refine EW.ret ?_
  exact EW.returns Tryz.results32 rfl ⟨_, l2, rfl, p2.p, p2.r, e1.trans (p2.f.below (fun k hk e => by have := hf1 k e; omega) e1.size), hf1⟩
set_option maxRecDepth 100000 in
set_option maxHeartbeats 1000000 in
theorem commit_ok {w : World} {L : Lay} {N : Nat} {s : Nat → List UInt8} {c n q : Nat} (h : Dk w L N s 0 c) (hb : Blk w q (lgC L.p n .nilIface) 87) (hnN : 4 * n + 1 ≤ N) (hN : N ≤ 4096) (hn2 : n ≤ 250) (hcal : c ≤ 100000) {g cp : Nat} {l : List Pw} (hp : Pws w (.slice (some ⟨g, 0, none⟩) l.length cp) l) (hl0 : 0 < l.length) (hl : l.length ≤ 40) (hx : ∀ x ∈ l, x.n < n) (hd : (l.map Pw.n).Nodup) (hxF : ∀ x ∈ l, ∀ k, x.v.ownBlock = some k → ¬ L.F k) (hxB : ∀ x ∈ l, ∀ k, x.v.ownBlock = some k → k < w.heap.size) : Calls Tryz.prog 9 #[.pointer (some ⟨q, 0, none⟩), .slice (some ⟨g, 0, none⟩) l.length cp] w fun e w' => e = .returned .nilIface ∧ ∃ L' l', l'.Perm l ∧ Turn w w' L L' ∧ Dk w' L' N (chS n s l') 0 (c + 6 * l.length + 8) := by
  refine calls_of_argsD [.pointer (some ⟨q, 0, none⟩), .slice (some ⟨g, 0, none⟩) l.length cp] Tryz.func9 rfl 35 Tryz.ntmps9 (by show 2 ≤ 35; decide) ?_
  refine EW.seq ?_
  refine EW.region ?_
  obtain ⟨w1, q1, r1, b1, e1, hq1, z1⟩ := box22 (some ⟨q, 0, none⟩) w
  refine WL.box rfl rfl rfl r1 ?_
  obtain ⟨w3, q3, r3, b3, e3, hq3, z3⟩ := new24 w1
  have e03 := e1.trans (e3.mono e1.size)
  have h3 := h.below e03
  have g3 := hb.on e03
  have p3 := hp.below e03
  have b13 := b1.on e3
  have hF : ∀ k, w.heap.size ≤ k → ¬ L.F k := fun k hk hF => by have := h.lt _ hF; omega
  refine WL.new rfl rfl r3 ?_
  refine WL.done ?_
  refine EW.on ?_
  refine EW.seq ?_
  refine EW.region ?_
  refine WL.mkf [.pointer (some ⟨q1, 0, none⟩), .pointer (some ⟨q3, 0, none⟩)] rfl rfl rfl ?_
  refine WL.defer rfl rfl ?_
  refine WL.done ?_
  refine EW.on ?_
  refine EW.seq ?_
  refine EW.seq ?_
  refine EW.region ?_
  refine WL.load rfl rfl rfl (ld22c b13) ?_
  first | refine WL.nilc rfl rfl rfl ?_
  refine WL.field rfl rfl rfl (fld66_1 q _) ?_
  refine WL.load rfl rfl rfl (ldl24 g3) ?_
  refine WL.bin rfl rfl rfl rfl (ne24n _ _) ?_
  refine WL.done ?_
  refine EW.on ?_
  refine EW.cond_f rfl ?_
  refine EW.skip ?_
  refine EW.on ?_
  refine EW.seq ?_
  refine EW.seq ?_
  refine EW.region ?_
  refine WL.load rfl rfl rfl (ld22c b13) ?_
  first | refine WL.move rfl rfl rfl ?_
  refine WL.call [.pointer (some ⟨q, 0, none⟩), .slice (some ⟨g, 0, none⟩) l.length cp] enter30 rfl rfl rfl (refusal_ok g3 _ l p3 (by omega) hx (by omega) hd) ?_
  rintro _ w4 ⟨rfl, e4⟩
  have e04 := e03.trans (e4.mono e03.size)
  have h4 := h.below e04
  have g4 := g3.on e4
  have p4 := p3.below e4
  have b14 := b13.on e4
  have b34 := b3.on e4
  refine ⟨_, rfl, ?_⟩
  first | refine WL.move rfl rfl rfl ?_
  first | refine WL.extract rfl rfl rfl (ext_2 _ _ _).1 ?_
  first | refine WL.extract rfl rfl rfl (ext_2 _ _ _).2 ?_
  first | refine WL.assign rfl rfl rfl ?_
  first | refine WL.assign rfl rfl rfl ?_
  refine WL.done ?_
  refine EW.on ?_
  refine EW.seq ?_
  refine EW.region ?_
  first | refine WL.move rfl rfl rfl ?_
  refine WL.bin rfl rfl rfl rfl (int_ne_f rfl _ _ _) ?_
  refine WL.done ?_
  refine EW.on ?_
  refine EW.cond_f rfl ?_
  refine EW.skip ?_
  refine EW.on ?_
  refine EW.seq ?_
  refine EW.seq ?_
  refine EW.region ?_
  first | refine WL.move rfl rfl rfl ?_
  refine WL.len rfl rfl rfl (p4.len _ _) ?_
  refine WL.bin rfl rfl rfl rfl (int_gt_t (by omega) _ _ _) ?_
  refine WL.done ?_
  refine EW.on ?_
  refine EW.cond_t rfl ?_
  refine EW.ordB [(0, 0, 1), (1, 0, 0), (2, 0, 0), (3, 0, 1), (4, 0, 0), (5, 1, 1), (6, 1, 0)] (by kernel_rfl) rfl (by kernel_rfl) ?_
  simp only [opsZ, List.getD_cons_zero, List.getD_cons_succ]
  refine ZE.load rfl rfl rfl rfl sz1 (fun W hW => ld22c (b14.on (sb_of hW))) ?_
  refine ZE.nilc rfl rfl rfl rfl sz0 ?_
  refine ZE.field rfl rfl rfl rfl sz0 (fun W => fld66_0 q W) ?_
  refine ZE.load rfl rfl rfl rfl sz1 (fun W hW => ldl55 (g4.on (sb_of hW))) ?_
  first | refine ZE.move rfl rfl rfl rfl sz0 ?_
  refine ZE.callR [.slice (some ⟨g, 0, none⟩) l.length cp] (fun v W => (∃ l', l'.Perm l ∧ Pws W v l' ∧ ∀ k, v.ownBlock = some k → w4.heap.size ≤ k) ∧ Below w4.heap.size w4 W) enter32 rfl rfl rfl (fun _ _ h => .inr h.2) (fun W hW => (rising_any (p4.below hW) hl (fun y hy k hk => by have := hxB y hy k hk; have := e04.size; have := hW.size; omega)).mono fun e w' ⟨u, l', g1, g0, g2, g3, g4⟩ => ⟨u, g1, ⟨l', g0, g2, fun k hk => Nat.le_trans hW.size (g4 k hk)⟩, hW.trans (g3.mono hW.size)⟩) ?_
  rintro vs ⟨_, _, _⟩
  refine ZE.callR [dkV L.p n, vs] (fun v W => v = .tuple #[] ∧ ∃ L' l', l'.Perm l ∧ Turn w4 W L L' ∧ Dk W L' N (chS n s l') 0 (c + 6 * l.length + 8)) enter31 rfl rfl rfl (fun _ _ _ => .inl rfl) (fun W hW => ?_) ?_
  · obtain ⟨⟨l', hl', hpw, hvs⟩, hbW⟩ := hW
    refine (change_ok n (h4.below hbW) hnN (by omega) vs l' hpw (by rw [hl'.length_eq]; omega) (fun y hy => hx y (hl'.subset hy)) hn2 (fun k hk => hF k (Nat.le_trans e04.size (hvs k hk))) (fun y hy k hk => hxF y (hl'.subset hy) k hk) (fun y hy k hk => by have := hxB y (hl'.subset hy) k hk; have := e04.size; have := hbW.size; omega) (by omega)).mono fun e w' h => ?_
    obtain ⟨g1, L', g2, g3⟩ := h
    rw [hl'.length_eq] at g3
    exact ⟨_, g1, rfl, L', l', hl', g2.pre hbW, g3⟩
  rintro _ ⟨_, rfl, _⟩
  rintro w6 ⟨_, L6, l6, hl6, t6, d6⟩
  have b36 := b34.fx t6.fx (hF q3 (by omega))
  refine EW.on ?_
  refine EW.seq ?_
  refine EW.region ?_
  obtain ⟨w7, s7, b7, x7⟩ := st24n b36
  refine WL.store rfl rfl rfl s7 ?_
  refine WL.done ?_
  refine EW.on ?_
  refine EW.ret ?_
  refine EW.leaves enter26 (commit1_none _ _ _) ?_
  rintro u w' ⟨hu, hw⟩
  subst hu
  rw [hw]
  have t06 := t6.pre e04
  have h6F : ∀ k, L6.F k → ¬ k = q3 := fun k hk hh => (t6.own k hk).elim (hF k (by omega)) (fun h2 => by have := b34.lt; omega)
  refine ⟨rfl, fun a ha => ⟨_, results_c1 Tryz.results9 a.tmps w7 (ha.kn 4 _ rfl) (ld24c b7), rfl, L6, l6, hl6, ⟨t06.fx.trans x7 (fun k hk hh => by omega), t06.own, t06.p⟩, ?_⟩⟩
  obtain ⟨D, k1, k2⟩ := d6.ex
  exact ⟨D, k1.fx x7 h6F, k2⟩
end Go.Proofs.YtomioemhjhhbcaaGreatDoor

set_option linter.unusedVariables false
set_option linter.unusedSimpArgs false
namespace Go.Proofs.YtomioemhjhhbcaaGreatDoor
open Go.RowKit

theorem ldcP {W : World} {q j : Nat} {cs : List Value} {t : TypeId} {o : Option Addr} (hb : Blk W q cs t) (h : cs[j]? = some (.pointer o)) : (Instr.loadAt 41 (.pointer (some ⟨q, j, none⟩))).run Tryz.prog W = .ok (.pointer o) W := by
  have hc : W.cell? ⟨q, j, none⟩ = some (.pointer o) := (hb.cell j).trans h
  have hf := hb.frozen j
  go_simp
theorem str_ne (a : List UInt8) (W : World) (x y : Operand) : (do eqGuard .neq 9 x y (strV a) (strV a); binOp .neq 9 (strV a) (strV a) : Sem Value).run Tryz.prog W = .ok (.bool false) W := by
  unfold strV
  go_simp
def stE (q : Nat) (v : Value) (t : Nat) : List (Nat × Value) := [(0, .pointer (some ⟨q, 0, none⟩)), (1, v), (5, .int .i64 (t : Int))]
theorem Os.item' {w : World} {b : Nat} {v : Value} {xs : List (List UInt8)} (h : Os w b v xs) {i : Nat} {x : List UInt8} (hi : xs[i]? = some x) : ∃ ad, (∀ W, (Instr.indexAt 37 v (.int .i64 (i : Int))).run Tryz.prog W = .ok (.pointer (some ad)) W) ∧ ∀ W, Below w.heap.size w W → (Instr.loadAt 9 (.pointer (some ad))).run Tryz.prog W = .ok (strV x) W := by
  obtain ⟨ad, h1, _⟩ := h.item hi
  refine ⟨ad, h1, fun W hW => ?_⟩
  obtain ⟨ad', h2, h3⟩ := (h.below hW).item hi
  have e := (h1 W).symm.trans (h2 W)
  simp only [Result.ok.injEq, Value.pointer.injEq, Option.some.injEq, and_true] at e
  rw [e]
  exact h3
set_option maxRecDepth 100000 in
set_option maxHeartbeats 1000000 in
theorem stands_ok {w : World} {L : Lay} {N : Nat} {s : Nat → List UInt8} {m c q ql p more b : Nat} {d : Option Addr} {v0 v : Value} {ps : List (List UInt8)} (h : Dk w L N s m c) (hb : Blk w q (rmC d (some ⟨ql, 0, none⟩) p more v0) 43) (hlg : Blk w ql (lgC L.p p .nilIface) 87) (hpN : 4 * p + 1 ≤ N) (hN : N ≤ 4096) (hs : Os w b v ps) (hpp : ps.length = p) (hps : ∀ i x, ps[i]? = some x → x = s (1 + 2 * (p + i)) ++ s (1 + 2 * (p + i) + 1)) : Calls Tryz.prog 13 #[.pointer (some ⟨q, 0, none⟩), v] w fun e w' => e = .returned (.bool true) ∧ Below w.heap.size w w' := by
  refine calls_of_args [.pointer (some ⟨q, 0, none⟩), v] Tryz.func13 rfl 36 Tryz.ntmps13 (by show 2 ≤ 36; decide) ?_
  refine EW.seq ?_
  refine EW.region ?_
  first | refine WL.assign rfl rfl rfl ?_
  refine WL.done ?_
  refine EW.on ?_
  refine EW.seq ?_
  refine EW.seq ?_
  refine EW.region ?_
  first | refine WL.assign rfl rfl rfl ?_
  refine WL.done ?_
  refine EW.on ?_
  refine EW.block ?_
  refine EW.loop (stE q v) (fun t W => t ≤ p ∧ Below w.heap.size w W) (fun t => p - t) 0 [0, 1, 5] rfl ⟨Nat.zero_le _, Below.refl _ _⟩ ?_
  rintro t wi ⟨htl, be⟩
  show EW _ _ _ _ [(0, .pointer (some ⟨q, 0, none⟩)), (1, v), (5, .int .i64 (t : Int))] _
  refine EW.seq ?_
  refine EW.seq ?_
  refine EW.region ?_
  first | refine WL.move rfl rfl rfl ?_
  first | refine WL.move rfl rfl rfl ?_
  first | refine WL.nilc rfl rfl rfl ?_
  refine WL.field rfl rfl rfl (fld44 q 2 (by decide) _) ?_
  refine WL.load rfl rfl rfl (ldc3 (hb.on be) rfl) ?_
  refine WL.bin rfl rfl rfl rfl (int_lt_d _ _ _ _ _) ?_
  refine WL.done ?_
  refine EW.on ?_
  refine EW.cond_d rfl (fun h13 => ?_) (fun h13 => ?_)
  · refine EW.skip ?_
    refine EW.on ?_
    refine EW.seq ?_
    refine EW.block ?_
    refine EW.seq ?_
    have ht : t < p := by omega
    obtain ⟨x, hx⟩ : ∃ x, ps[t]? = some x := ⟨_, List.getElem?_eq_getElem (by omega)⟩
    obtain ⟨ad, ix, lx⟩ := hs.item' hx
    refine EW.region ?_
    first | refine WL.move rfl rfl rfl ?_
    first | refine WL.nilc rfl rfl rfl ?_
    refine WL.field rfl rfl rfl (fld44 q 1 (by decide) _) ?_
    refine WL.load rfl rfl rfl (ldcP (hb.on be) rfl) ?_
    first | refine WL.move rfl rfl rfl ?_
    refine WL.call [.pointer (some ⟨ql, 0, none⟩), .int .i64 (t : Int)] enter19 rfl rfl rfl (read_log (h.below be) (hlg.on be) hpN hN t ht) ?_
    rintro _ w2 ⟨u, rfl, o2, e2⟩
    refine ⟨_, rfl, ?_⟩
    have e02 := be.trans (e2.mono be.size)
    have o2' := o2.has
    rw [← hps t x hx] at o2'
    first | refine WL.move rfl rfl rfl ?_
    first | refine WL.extract rfl rfl rfl (ext_2 _ _ _).1 ?_
    first | refine WL.extract rfl rfl rfl (ext_2 _ _ _).2 ?_
    first | refine WL.assign rfl rfl rfl ?_
    first | refine WL.assign rfl rfl rfl ?_
    refine WL.done ?_
    refine EW.on ?_
    refine EW.seq ?_
    refine EW.ordB [(0, 0, 0), (1, 0, 0), (2, 0, 0), (3, 0, 0), (4, 0, 1), (5, 0, 0), (6, 0, 0), (7, 0, 0), (8, 0, 1), (9, 0, 0), (10, 0, 0)] (by kernel_rfl) rfl (by kernel_rfl) ?_
    simp only [opsZ, List.getD_cons_zero, List.getD_cons_succ]
    first | refine ZE.move rfl rfl rfl rfl sz0 ?_
    refine ZE.bin rfl rfl rfl rfl rfl sz0 (fun W => ne24n _ _) ?_
    first | refine ZE.move rfl rfl rfl rfl sz0 ?_
    first | refine ZE.move rfl rfl rfl rfl sz0 ?_ | refine ZE.skip rfl rfl rfl sz0 ?_
    refine ZE.conv (v := strV x) rfl rfl rfl rfl sz1 (fun W hW => (o2'.below (sb_of hW)).convert) ?_
    first | refine ZE.move rfl rfl rfl rfl sz0 ?_ | refine ZE.skip rfl rfl rfl sz0 ?_
    first | refine ZE.move rfl rfl rfl rfl sz0 ?_ | refine ZE.skip rfl rfl rfl sz0 ?_
    refine ZE.index rfl rfl rfl rfl rfl sz0 (fun W => ix W) ?_
    refine ZE.load rfl rfl rfl rfl sz1 (fun W hW => lx W (e02.trans ((sb_of hW).mono e02.size))) ?_
    refine ZE.bin rfl rfl rfl rfl rfl sz0 (fun W => str_ne _ W _ _) ?_
    first | refine ZE.pick rfl rfl rfl rfl rfl sz0 ?_
    rintro W5 hW5
    refine EW.on ?_
    refine EW.cond_f rfl ?_
    refine EW.skip ?_
    refine pn_block ?_
    refine EW.on ?_
    refine EW.region ?_
    first | refine WL.move rfl rfl rfl ?_
    refine WL.bin rfl rfl rfl rfl (int_add (c := ((t + 1 : Nat) : Int)) (by rw [IntKind.wrap_i64]; omega) _ _ _) ?_
    first | refine WL.assign rfl rfl rfl ?_
    refine WL.done ?_
    refine EW.again (E := stE q v) (R := fun t W => t ≤ p ∧ Below w.heap.size w W) (m := fun t => p - t) (x := t) (t + 1) [0, 1, 5] rfl ⟨by omega, e02.trans (hW5.mono e02.size)⟩ (by show p - (t + 1) < p - t; omega)
  · refine EW.exit ?_
    refine px_then ?_
    refine px_then ?_
    refine px_block ?_
    refine EW.on ?_
    refine EW.seq ?_
    refine EW.region ?_
    first | refine WL.assign rfl rfl rfl ?_
    refine WL.done ?_
    refine EW.on ?_
    refine EW.ret ?_
    exact EW.returns Tryz.results13 rfl ⟨rfl, be⟩
end Go.Proofs.YtomioemhjhhbcaaGreatDoor

set_option linter.unusedVariables false
set_option linter.unusedSimpArgs false
namespace Go.Proofs.YtomioemhjhhbcaaGreatDoor
open Go.RowKit

/-- A page of the script. -/
structure Gp where
  num : Int
  fill : UInt8
  cut : Int
def gpC (g : Gp) : List Value := [.int .i64 g.num, byt g.fill, .int .i64 g.cut]
/-- The script's pages lie there. -/
structure Gs (w : World) (v : Value) (gs : List Gp) : Prop where
  sl : ∃ ao c, v = .slice ao gs.length c
  at_ : ∀ (i : Nat) (g : Gp), gs[i]? = some g → ∃ ad, (∀ W, (Instr.indexAt 31 v (.int .i64 (i : Int))).run Tryz.prog W = .ok (.pointer (some ad)) W) ∧ ∀ W, Below w.heap.size w W → (Instr.loadAt 26 (.pointer (some ad))).run Tryz.prog W = .ok (.agg (gpC g).toArray) W
theorem Gs.below {w w' : World} {v : Value} {gs : List Gp} (h : Gs w v gs) (hb : Below w.heap.size w w') : Gs w' v gs := ⟨h.sl, fun i g hg => by
  obtain ⟨ad, h1, h2⟩ := h.at_ i g hg
  exact ⟨ad, h1, fun W hW => h2 W (hb.trans (hW.mono hb.size))⟩⟩
/-- The pages that are written together. -/
def wStep (p : Nat) (acc : List (Nat × UInt8)) (g : Gp) : List (Nat × UInt8) := if pickN g.num p ∈ acc.map Prod.fst then acc else acc ++ [(pickN g.num p, g.fill)]
def wantP (p : Nat) (gs : List Gp) : List (Nat × UInt8) := gs.foldl (wStep p) []
theorem wantP_snoc (p : Nat) (gs : List Gp) (g : Gp) (t : Nat) (h : gs[t]? = some g) : wantP p (gs.take (t + 1)) = wStep p (wantP p (gs.take t)) g := by
  unfold wantP
  rw [List.take_add_one, h]
  simp
theorem wStep_lt (p : Nat) (hp : 0 < p) (acc : List (Nat × UInt8)) (g : Gp) (h : ∀ x ∈ acc, x.1 < p) : ∀ x ∈ wStep p acc g, x.1 < p := fun x hx => by
  unfold wStep at hx
  split at hx
  · exact h x hx
  · rcases List.mem_append.1 hx with e | e
    · exact h x e
    · rw [List.mem_singleton.1 e]; exact pickN_lt _ _ hp
theorem wStep_nodup (p : Nat) (acc : List (Nat × UInt8)) (g : Gp) (h : (acc.map Prod.fst).Nodup) : ((wStep p acc g).map Prod.fst).Nodup := by
  unfold wStep
  split
  · exact h
  · rename_i hn
    rw [List.map_append, List.nodup_append]
    refine ⟨h, by simp, fun a ha b hb => ?_⟩
    simp at hb
    rintro rfl
    exact hn (hb ▸ ha)
theorem wStep_len (p : Nat) (acc : List (Nat × UInt8)) (g : Gp) : (wStep p acc g).length ≤ acc.length + 1 := by
  unfold wStep
  split
  · omega
  · rw [List.length_append]; simp
/-- All pages behind them. -/
def aftL (ps : List (List UInt8)) (acc : List (Nat × UInt8)) : List (List UInt8) := acc.foldl (fun ps a => ps.set a.1 (pgB a.1 a.2)) ps
theorem aftL_len (ps : List (List UInt8)) : ∀ acc, (aftL ps acc).length = ps.length := fun acc => by
  unfold aftL
  induction acc generalizing ps with
  | nil => rfl
  | cons a r ih => rw [List.foldl_cons, ih, List.length_set]
theorem aftL_snoc (ps : List (List UInt8)) (acc : List (Nat × UInt8)) (a : Nat × UInt8) : aftL ps (acc ++ [a]) = (aftL ps acc).set a.1 (pgB a.1 a.2) := by
  unfold aftL
  rw [List.foldl_append]; rfl
def dnC (p : Nat) (acc : List (Nat × UInt8)) : List Value := (List.range p).map fun j => Value.bool (decide (j ∈ acc.map Prod.fst))
theorem dnC_nil (p : Nat) : dnC p [] = List.replicate p (Value.bool false) := by
  apply List.ext_getElem?
  intro i
  simp only [dnC, List.getElem?_map, List.getElem?_replicate]
  by_cases h : i < p <;> simp [h]
theorem dnC_get (p : Nat) (acc : List (Nat × UInt8)) (i : Nat) (h : i < p) : (dnC p acc)[i]? = some (.bool (decide (i ∈ acc.map Prod.fst))) := by
  simp [dnC, h]
theorem dnC_set (p : Nat) (acc : List (Nat × UInt8)) (a : Nat × UInt8) (h : a.1 < p) : (dnC p acc).set a.1 (.bool true) = dnC p (acc ++ [a]) := by
  apply List.ext_getElem?
  intro i
  rw [List.getElem?_set]
  have hl : (dnC p acc).length = p := by simp [dnC]
  rcases Nat.lt_or_ge i p with hi | hi
  · rw [dnC_get p (acc ++ [a]) i hi, hl, dnC_get p acc i hi]
    by_cases e : a.1 = i
    · subst e; simp [h]
    · have e' : ¬ i = a.1 := fun h => e h.symm
      simp [e, e']
  · have e1 : (dnC p (acc ++ [a]))[i]? = none := List.getElem?_eq_none (by simp [dnC]; omega)
    have e2 : (dnC p acc)[i]? = none := List.getElem?_eq_none (by rw [hl]; omega)
    rw [e1, e2]
    by_cases e : a.1 = i
    · omega
    · simp [e]
theorem own_type {w : World} {b : Nat} {e : TypeId} {size n : Nat} {v : Value} {xs : List Value} (h : w.ownsRow b e size v n xs) {k : Nat} (hk : v.ownBlock = some k) : ∃ cur, w.heap[k]? = some (.cells cur e (0, 0)) := by
  obtain ⟨_, ⟨rfl, _⟩ | ⟨g, cp, cur, rfl, hg, hh2, _⟩⟩ := h
  · cases hk
  · simp only [Value.ownBlock, Option.some.injEq] at hk
    subst hk
    exact ⟨cur, hh2⟩
/-- Blocks of unlike kinds are two. -/
theorem ne_type {w : World} {k q : Nat} {cs : List Value} {t e : TypeId} (h : ∃ cur, w.heap[k]? = some (.cells cur e (0, 0))) (hq : Blk w q cs t) (ht : ¬ e = t) : ¬ k = q := by
  rintro rfl
  obtain ⟨cur, h⟩ := h
  unfold Blk at hq
  rw [h] at hq
  simp at hq
  exact ht hq.2
theorem ne_type2 {w : World} {k q : Nat} {t e : TypeId} (h : ∃ cur, w.heap[k]? = some (.cells cur e (0, 0))) (hq : ∃ cur, w.heap[q]? = some (.cells cur t (0, 0))) (ht : ¬ e = t) : ¬ k = q := by
  rintro rfl
  obtain ⟨cur, h⟩ := h
  obtain ⟨cur', hq⟩ := hq
  rw [h] at hq
  simp at hq
  exact ht hq.2
theorem Os.clone {w : World} {b : Nat} {v : Value} {ps : List (List UInt8)} (h : Os w b v ps) (hl : ps.length ≤ 1000) (ty : TypeId) : ∃ v' w', (Builtin.append_ #[37, 37] ty #[.slice none 0 0, v]).run Tryz.prog w = .ok v' w' ∧ Os w' w.heap.size v' ps ∧ Below w.heap.size w w' := by
  obtain ⟨i, hi, hz⟩ := Option.map_eq_some_iff.1 (show (Tryz.prog.info? 9).map (fun i => (i.zero, i.size, i.bytes)) = some (some (.string ⟨#[]⟩), 1, 16) by kernel_rfl)
  simp only [Prod.mk.injEq] at hz
  obtain ⟨hx, ⟨rfl, h0⟩ | ⟨g, cp, cur, rfl, hg, hh, hn, hc, hs, ht⟩⟩ := h.row
  · have : ps = [] := List.eq_nil_of_length_eq_zero h0
    subst this
    exact ⟨_, w, run_append_owned_none (P := Tryz.prog) w 0 37 ty 9 i 1 (by kernel_rfl) hi (.slice none 0 0) 0 [] ⟨rfl, .inl ⟨rfl, rfl⟩⟩, Os.nil _ _, Below.refl _ _⟩
  · obtain ⟨v', w', r1, r2, r3, r4⟩ := run_appx w 37 ty 9 i _ 1 16 (by kernel_rfl) hi hz.1 hz.2.1 hz.2.2 (by rfl) (by decide) (.slice none 0 0) 0 [] ⟨rfl, .inl ⟨rfl, rfl⟩⟩ ⟨g, 0, none⟩ ps.length cp (ps.map strV) hx (World.ownsRow.cells h.row (g := g) rfl) (fun u hu => by
      obtain ⟨x, _, rfl⟩ := List.mem_map.1 hu
      rfl) (by omega) (by decide)
    rw [List.nil_append, Nat.zero_add] at r2
    refine ⟨v', w', r1, ⟨r2, fun k hk => ?_⟩, (grown_fx (v := .slice none 0 0) r3).below (fun k hk e => by cases e) (Nat.le_refl _)⟩
    rcases r4 k hk with e | e
    · cases e
    · exact e
theorem new26 (w : World) : ∃ w1 q, (Instr.alloc 26 true (.tuple #[])).run Tryz.prog w = .ok (.pointer (some ⟨q, 0, none⟩)) w1 ∧ Blk w1 q [.int .i64 0, .int .u8 0, .int .i64 0] 26 ∧ Below w.heap.size w w1 ∧ q = w.heap.size :=
  ⟨_, _, run_newR 26 [.int .i64 0, .int .u8 0, .int .i64 0] (fun w => by rw [Tryz.zeroValue26]) w _ rfl, Blk.new _ _ _, below_new _ _, rfl⟩
theorem st26 {w : World} {q : Nat} {cs : List Value} (g : Gp) (hb : Blk w q cs 26) (hl : cs.length = 3) : ∃ w', (Instr.storeAt 26 (.pointer (some ⟨q, 0, none⟩)) (.agg (gpC g).toArray)).run Tryz.prog w = .ok () w' ∧ Blk w' q (gpC g) 26 ∧ Fx (fun k => k = q) w w' :=
  ⟨_, run_storeR hb (by show _ = some 3; kernel_rfl) (by rw [hl]; rfl) (by simp [gpC, byt, Value.oneCell']), hb.setRow _, ⟨rfl, rfl, rfl, by rw [setRow_size]; exact Nat.le_refl _, fun k _ hk => setRow_other w q k _ hk⟩⟩
theorem st3f {w : World} {q j : Nat} {cs : List Value} {t : TypeId} {v0 : Value} (x : Int) (hb : Blk w q cs t) (hj : cs[j]? = some v0) : ∃ w', (Instr.storeAt 3 (.pointer (some ⟨q, j, none⟩)) (.int .i64 x)).run Tryz.prog w = .ok () w' ∧ Blk w' q (cs.set j (.int .i64 x)) t ∧ Fx (fun k => k = q) w w' := by
  have hc : w.cell? ⟨q, j, none⟩ = some v0 := (hb.cell j).trans hj
  have hf := hb.frozen j
  refine ⟨w.setCell ⟨q, j, none⟩ (.int .i64 x), by go_simp, hb.set j _, Fx.setCell _ _ _ _ rfl⟩
theorem fldT (q j : Nat) (hj : j < 4) (W : World) : (Instr.fieldAt 34 (.pointer (some ⟨q, 0, none⟩)) j).run Tryz.prog W = .ok (.pointer (some ⟨q, j, none⟩)) W := by
  have h : j = 0 ∨ j = 1 ∨ j = 2 ∨ j = 3 := by omega
  obtain rfl | rfl | rfl | rfl := h <;> (go_simp; try simp; try rw [add_plain])
theorem ldG {W : World} {q j : Nat} {cs : List Value} {t : TypeId} {v : Value} (hb : Blk W q cs t) (h : cs[j]? = some v) : (Instr.loadAt 31 (.pointer (some ⟨q, j, none⟩))).run Tryz.prog W = .ok v W := by
  have hc : W.cell? ⟨q, j, none⟩ = some v := (hb.cell j).trans h
  have hf := hb.frozen j
  go_simp
theorem len31 (ao : Option Addr) (n c : Nat) (W : World) (ty : TypeId) : (Builtin.len_ #[31] ty #[.slice ao n c]).run Tryz.prog W = .ok (.int .i64 (n : Int)) W := by go_simp
/-- A turn as a value. -/
def tnC (vp vf : Value) (cr an : Bool) : List Value := [vp, .bool cr, vf, .bool an]
theorem box34 (vp vf : Value) (cr an : Bool) (w : World) : ∃ w1 q, (Instr.box 34 (.agg (tnC vp vf cr an).toArray)).run Tryz.prog w = .ok (.pointer (some ⟨q, 0, none⟩)) w1 ∧ Blk w1 q (tnC vp vf cr an) 34 ∧ Below w.heap.size w w1 ∧ q = w.heap.size :=
  ⟨_, _, run_boxR 34 _ w _ rfl, Blk.new _ _ _, below_new _ _, rfl⟩
end Go.Proofs.YtomioemhjhhbcaaGreatDoor
