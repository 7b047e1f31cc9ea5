import Derived.Test.YtomioemhjhhbcaaGreatDoorWk
set_option linter.unusedVariables false
set_option linter.unusedSimpArgs false
namespace Go.Proofs.YtomioemhjhhbcaaGreatDoor
open Go.RowKit

theorem WL.slice2 {P : Program} {n : Fm} {ops : Array Oper} {Q : Exit → Act → World → Prop} {i : Nat} {ty : TypeId} {ps : String} {af : Array Edge} {gd : Option (Nat × Bool)} {r : List Oper} {e : List (Nat × Value)} {w : World} {t : TypeId} {x lo hi' : Operand} {u ul uh v : Value} (hw : wantE ops e ⟨some i, .slice t x (some lo) (some hi') none, ty, ps, af, gd⟩ = some true) (hi : decide (i < n.k) = true) (hx : evE e x = some u) (hl : evE e lo = some ul) (hh : evE e hi' = some uh) (hr : (Instr.sliceAt t u (some ul) (some uh) none).run P w = .ok v w) (k : WL P n ops Q r ((i, v) :: e) w) : WL P n ops Q (⟨some i, .slice t x (some lo) (some hi') none, ty, ps, af, gd⟩ :: r) e w :=
  WL.op i v hw rfl hi (fun a ha => by simp [execOp, ha.ev hx, ha.ev hl, ha.ev hh, hr, Result.andThen]) k
theorem sl57 (t : Value) (a b c : Option Value) (W : World) : (Instr.sliceAt 98 t a b c).run Tryz.prog W = (Instr.slice 98 t a b c).run Tryz.prog W := by
  simp [Instr.sliceAt, run_underlying Tryz.underlying98]
theorem elem57 : Tryz.prog.elem 98 = 5 := by simp [Program.elem, Tryz.underlying98]
theorem Has.cut57 {w : World} {v : Value} {bs : List UInt8} (h : Has w v bs) (l k : Nat) (hlk : l ≤ k) (hk : k ≤ bs.length) (W : World) :
    (Instr.sliceAt 98 v (some (.int .i64 l)) (some (.int .i64 k)) none).run Tryz.prog W = .ok (cutV v l k) W := by
  rw [sl57]
  have ht : Tryz.prog.underlying 98 = some (.slice (Tryz.prog.elem 98)) := by rw [elem57]; exact Tryz.underlying98
  have hc : ∃ ao cap, v = .slice ao bs.length cap ∧ bs.length ≤ cap := by
    rcases h with ⟨rfl, rfl⟩ | ⟨ad, cap, rfl, h2, _⟩
    · exact ⟨_, _, rfl, Nat.le_refl _⟩
    · exact ⟨_, _, rfl, h2⟩
  obtain ⟨ao, cap, rfl, hc⟩ := hc
  rw [run_slice_lh W 98 ao _ cap ht .i64 .i64 l k (by omega) (by omega) (by omega), elem57, size5]
  simp [Result.andThen, cutV]
set_option maxRecDepth 100000 in
set_option maxHeartbeats 1000000 in
theorem sense_zero (m : Value) (bs : List UInt8) (p : Nat) (w : World) (hb : Has w m bs) (hl : bs.length = 512) (h0 : bAt bs 511 = 0) : Calls Tryz.prog 40 #[m, .int .i64 (p : Int)] w fun e w' => e = .returned (.bool true) ∧ w' = w := by
  obtain ⟨ad, ix, lx⟩ := hb.at57 (i := 511) (by omega)
  refine calls_of_args [m, .int .i64 (p : Int)] Tryz.func40 rfl 34 Tryz.ntmps40 (by show 2 ≤ 34; decide) ?_
  refine EW.seq ?_
  refine EW.region ?_
  first | refine WL.assign rfl rfl rfl ?_
  refine WL.done ?_
  refine EW.on ?_
  refine EW.seq ?_
  refine EW.seq ?_
  refine EW.region ?_
  first | refine WL.move rfl rfl rfl ?_
  refine WL.index rfl rfl rfl rfl (ix _) ?_
  refine WL.load rfl rfl rfl lx ?_
  refine WL.bin rfl rfl rfl rfl (eq5 (bAt bs 511) 0 _ _ _) ?_
  refine WL.done ?_
  refine EW.on ?_
  refine EW.cond_d rfl (fun h9 => ?_) (fun h9 => ?_)
  · refine EW.seq ?_
    refine EW.region ?_
    first | refine WL.assign rfl rfl rfl ?_
    refine WL.done ?_
    refine EW.on ?_
    refine EW.ret ?_
    refine pr_then ?_
    exact EW.returns Tryz.results40 rfl ⟨rfl, rfl⟩
  · exact absurd h0 h9
set_option maxRecDepth 100000 in
set_option maxHeartbeats 1000000 in
theorem sense_ok (m : Value) (bs : List UInt8) (p x : Nat) (w : World) (hb : Has w m bs) (hl : bs.length = 512) (h1 : bAt bs 511 = 1) (hz : zB ((bs.drop 32).take (511 - 32)) = true) (hlast : (numsT bs 256)[(numsT bs 256).length - 1]? = some x) (hx : x < p) : Calls Tryz.prog 40 #[m, .int .i64 (p : Int)] w fun e w' => e = .returned (.bool true) ∧ Below w.heap.size w w' := by
  obtain ⟨ad, ix, lx⟩ := hb.at57 (i := 511) (by omega)
  have hp : 0 < (numsT bs 256).length := by have := (List.getElem?_eq_some_iff.1 hlast).1; omega
  have hle := numsT_len bs 256
  have hpos : (0 : Int) < ((numsT bs 256).length : Int) := by omega
  have s28 : IntKind.i64.wrap (((numsT bs 256).length : Int) - 1) = (((numsT bs 256).length - 1 : Nat) : Int) := by rw [IntKind.wrap_i64]; omega
  have hlt : (x : Int) < (p : Int) := by omega
  refine calls_of_args [m, .int .i64 (p : Int)] Tryz.func40 rfl 34 Tryz.ntmps40 (by show 2 ≤ 34; decide) ?_
  refine EW.seq ?_
  refine EW.region ?_
  first | refine WL.assign rfl rfl rfl ?_
  refine WL.done ?_
  refine EW.on ?_
  refine EW.seq ?_
  refine EW.seq ?_
  refine EW.region ?_
  first | refine WL.move rfl rfl rfl ?_
  refine WL.index rfl rfl rfl rfl (ix _) ?_
  refine WL.load rfl rfl rfl lx ?_
  refine WL.bin rfl rfl rfl rfl (eq5 (bAt bs 511) 0 _ _ _) ?_
  refine WL.done ?_
  refine EW.on ?_
  refine EW.cond_d rfl (fun h9 => ?_) (fun h9 => ?_)
  · exact absurd (h1.symm.trans h9) (by decide)
  · refine EW.skip ?_
    refine EW.on ?_
    refine EW.seq ?_
    refine EW.region ?_
    first | refine WL.move rfl rfl rfl ?_
    refine WL.call [m] enter72 rfl rfl rfl (numbers_any m bs w hb hl) ?_
    rintro _ w1 ⟨vl, rfl, oi, e1⟩
    refine ⟨_, rfl, ?_⟩
    first | refine WL.assign rfl rfl rfl ?_
    refine WL.done ?_
    refine EW.on ?_
    refine EW.seq ?_
    refine EW.region ?_
    first | refine WL.move rfl rfl rfl ?_
    refine WL.call [m] enter42 rfl rfl rfl (stands_any m bs w1 (hb.below e1) hl) ?_
    rintro _ w2 ⟨rfl, hz2⟩
    rw [hz2, decide_eq_true h1]
    refine ⟨_, rfl, ?_⟩
    first | refine WL.move rfl rfl rfl ?_
    first | refine WL.move rfl rfl rfl ?_ | refine WL.skip _ rfl rfl rfl ?_
    refine WL.slice2 rfl rfl rfl rfl rfl ((hb.below e1).cut57 32 511 (by decide) (by omega) _) ?_
    refine WL.call [cutV m 32 511] enter73 rfl rfl rfl (zeros_any _ _ w1 ((hb.below e1).cut 32 511 (by decide) (by omega)) (by simp; omega)) ?_
    rintro _ w3 ⟨rfl, hz3⟩
    rw [hz3, hz]
    refine ⟨_, rfl, ?_⟩
    first | refine WL.pick rfl rfl rfl rfl ?_
    first | refine WL.move rfl rfl rfl ?_
    first | refine WL.move rfl rfl rfl ?_ | refine WL.skip _ rfl rfl rfl ?_
    refine WL.len rfl rfl rfl (oi.len _ _) ?_
    refine WL.bin rfl rfl rfl rfl (int_gt_t hpos _ _ _) ?_
    first | refine WL.pick rfl rfl rfl rfl ?_
    first | refine WL.move rfl rfl rfl ?_
    first | refine WL.move rfl rfl rfl ?_ | refine WL.skip _ rfl rfl rfl ?_
    first | refine WL.move rfl rfl rfl ?_ | refine WL.skip _ rfl rfl rfl ?_
    refine WL.len rfl rfl rfl (oi.len _ _) ?_
    refine WL.bin rfl rfl rfl rfl (int_sub s28 _ _ _) ?_
    obtain ⟨a2, i2, l2⟩ := oi.item hlast
    refine WL.index rfl rfl rfl rfl (i2 _) ?_
    refine WL.load rfl rfl rfl l2 ?_
    first | refine WL.move rfl rfl rfl ?_ | refine WL.skip _ rfl rfl rfl ?_
    refine WL.bin rfl rfl rfl rfl (int_lt_t hlt _ _ _) ?_
    first | refine WL.pick rfl rfl rfl rfl ?_
    first | refine WL.assign rfl rfl rfl ?_
    refine WL.done ?_
    refine EW.on ?_
    refine EW.ret ?_
    exact EW.returns Tryz.results40 rfl ⟨rfl, e1⟩
theorem Dk.congr {w : World} {L : Lay} {N : Nat} {s s' : Nat → List UInt8} {m c : Nat} (h : Dk w L N s m c) (hs : ∀ i, i < N → s i = s' i) : Dk w L N s' m c := by
  obtain ⟨D, h1, h2, h3, h4, h5, h6⟩ := h.ex
  exact ⟨D, h1, h2, h3, h4, fun i hi => (h5 i hi).trans (hs i hi), h6⟩
theorem add_plain2 (q o i : Nat) : (⟨q, o, none⟩ : Addr).add i = ⟨q, o + i, none⟩ := by
  simp [Addr.add]
  try omega
/-- Pages go home out of their slots. -/
def hom1 (n : Nat) (s : Nat → List UInt8) (k : Nat) : Nat → List UInt8 := setS (setS s (1 + 2 * (n + k)) (s (1 + 2 * k))) (1 + 2 * (n + k) + 1) (s (1 + 2 * k + 1))
def homT (n : Nat) (s : Nat → List UInt8) (l : List Nat) : Nat → List UInt8 := l.foldl (hom1 n) s
theorem homT_snoc (n : Nat) (s : Nat → List UInt8) (l : List Nat) (t x : Nat) (h : l[t]? = some x) : homT n s (l.take (t + 1)) = hom1 n (homT n s (l.take t)) x := by
  unfold homT
  rw [List.take_add_one, h]
  simp [List.foldl_append]
def rpE (q : Nat) (mv v : Value) (k : Nat) (x : Nat × Lay) : List (Nat × Value) := [(1, mv), (2, .pointer (some ⟨q, 0, none⟩)), (7, v), (8, .int .i64 (k : Int)), (9, .int .i64 (x.1 : Int))]
structure RpR (w2 : World) (L : Lay) (N n : Nat) (s : Nat → List UInt8) (m c : Nat) (l : List Nat) (x : Nat × Lay) (W : World) : Prop where
  t : Turn w2 W L x.2
  d : Dk W x.2 N (homT n s (l.take x.1)) (m + 2 * x.1) (c + 2 * x.1)
  le : x.1 ≤ l.length
set_option maxRecDepth 100000 in
set_option maxHeartbeats 1000000 in
theorem repeat_ok {w : World} {L : Lay} {N : Nat} {s : Nat → List UInt8} {m c : Nat} (n : Nat) (h : Dk w L N s m c) (hn : 4 * n + 1 ≤ N) (hN : N ≤ 10000) (mv : Value) (bs : List UInt8) (hv : Has w mv bs) (hvF : ∀ k, mv.ownBlock = some k → ¬ L.F k) (hl : bs.length = 512) (hnum : ∀ x ∈ numsT bs 256, x < n) (few : m ≤ 1000) (hcal : c ≤ 1000000) : Calls Tryz.prog 43 #[dkV L.p n, mv] w fun e w' => e = .returned (.tuple #[]) ∧ ∃ L' c', Turn w w' L L' ∧ Dk w' L' N (setS (homT n s (numsT bs 256)) 0 (bs.set 511 0)) 0 c' ∧ c' ≤ c + 1000 := by
  refine calls_of_args [dkV L.p n, mv] Tryz.func43 rfl 32 Tryz.ntmps43 (by show 2 ≤ 32; decide) ?_
  refine EW.seq ?_
  refine EW.region ?_
  obtain ⟨w1, q, r1, b1, e1, hq⟩ := box55 L.p n w
  have h1 := h.below e1
  refine WL.box rfl rfl rfl r1 ?_
  refine WL.done ?_
  refine EW.on ?_
  refine EW.seq ?_
  refine EW.seq ?_
  refine EW.region ?_
  first | refine WL.move rfl rfl rfl ?_
  refine WL.call [mv] enter72 rfl rfl rfl (numbers_any mv bs w1 (hv.below e1) hl) ?_
  rintro _ w2 ⟨vl, rfl, oi, e2⟩
  have h2 := h1.below e2
  have e12 : Below w.heap.size w w2 := e1.trans (e2.mono e1.size)
  have hqF : ¬ L.F q := fun hF => by have := h.lt _ hF; omega
  have b2 := b1.on e2
  have v2 := (hv.below e1).below e2
  have hoF : ∀ k, vl.ownBlock = some k → ¬ L.F k := fun k hk hF => by have := h1.lt _ hF; have := oi.base k hk; omega
  refine ⟨_, rfl, ?_⟩
  refine WL.len rfl rfl rfl (oi.len _ _) ?_
  first | refine WL.move rfl rfl rfl ?_
  refine WL.done ?_
  refine EW.on ?_
  refine EW.block ?_
  refine EW.loop (rpE q mv vl (numsT bs 256).length) (RpR w2 L N n s m c (numsT bs 256)) (fun x => (numsT bs 256).length - x.1) (0, L) [1, 2, 7, 8, 9] rfl ⟨Turn.refl _ _, h2, Nat.zero_le _⟩ ?_
  rintro ⟨t, Li⟩ wi ⟨ti, di, hle⟩
  simp only at ti di hle
  obtain ⟨S, hS⟩ : ∃ S, homT n s ((numsT bs 256).take t) = S := ⟨_, rfl⟩
  rw [hS] at di
  have hlen := numsT_len bs 256
  show EW _ _ _ _ [(1, mv), (2, .pointer (some ⟨q, 0, none⟩)), (7, vl), (8, .int .i64 ((numsT bs 256).length : Int)), (9, .int .i64 (t : Int))] _
  refine EW.seq ?_
  refine EW.region ?_
  first | refine WL.bin rfl rfl rfl rfl (int_lt_t ‹_› _ _ _) ?_ | refine WL.bin rfl rfl rfl rfl (int_lt_f ‹_› _ _ _) ?_ | refine WL.bin rfl rfl rfl rfl (int_lt_d _ _ _ _ _) ?_
  refine WL.done ?_
  refine EW.on ?_
  refine EW.seq ?_
  refine EW.cond_d rfl (fun h10 => ?_) (fun h10 => ?_)
  · refine EW.skip ?_
    refine EW.on ?_
    refine EW.seq ?_
    refine EW.block ?_
    refine EW.seq ?_
    have ht : t < (numsT bs 256).length := by omega
    have tn : IntKind.i64.wrap ((t : Int) + 1) = ((t + 1 : Nat) : Int) := by rw [IntKind.wrap_i64]; omega
    refine EW.region ?_
    obtain ⟨x, hx⟩ : ∃ x, (numsT bs 256)[t]? = some x := ⟨_, List.getElem?_eq_getElem ht⟩
    have hxn := hnum x (List.mem_of_getElem? hx)
    have bi := b2.fx ti.fx hqF
    obtain ⟨ad, ix, lx⟩ := (oi.fx ti.fx hoF).item hx
    refine WL.index rfl rfl rfl rfl (ix _) ?_
    refine WL.load rfl rfl rfl lx ?_
    first | refine WL.assign rfl rfl rfl ?_
    refine WL.done ?_
    refine EW.on ?_
    refine EW.ordB [(0, 0, 1), (1, 0, 1), (2, 0, 0), (4, 0, 1), (5, 0, 1), (6, 0, 0), (3, 1, 1), (7, 1, 1), (8, 1, 1), (9, 1, 0)] (by kernel_rfl) rfl (by kernel_rfl) ?_
    simp only [opsZ, List.getD_cons_zero, List.getD_cons_succ]
    refine ZE.load rfl rfl rfl rfl sz1 (fun W hW => ld55 (bi.on (sb_of hW))) ?_
    refine ZE.load rfl rfl rfl rfl sz1 (fun W hW => ld55 (bi.on (sb_of hW))) ?_
    first | refine ZE.move rfl rfl rfl rfl sz0 ?_
    refine ZE.load rfl rfl rfl rfl sz1 (fun W hW => ld55 (bi.on (sb_of hW))) ?_
    refine ZE.load rfl rfl rfl rfl sz1 (fun W hW => ld55 (bi.on (sb_of hW))) ?_
    first | refine ZE.move rfl rfl rfl rfl sz0 ?_
    refine ZE.callR [dkV L.p n, .int .i64 (x : Int)] (fun v W => v = .int .i64 ((1 + 2 * (n + x) : Nat) : Int) ∧ Below wi.heap.size wi W) enter49 rfl rfl rfl (fun _ _ h => .inr h.2) (fun W hW => (home_any L.p n x W (by omega)).mono fun e w' ⟨g1, g2⟩ => ⟨_, g1, rfl, hW.trans (g2.mono hW.size)⟩) ?_
    rintro _ ⟨_, rfl, _⟩
    refine ZE.callR [dkV L.p n, .int .i64 (x : Int)] (fun v W => v = .int .i64 ((1 + 2 * x : Nat) : Int) ∧ Below wi.heap.size wi W) enter55 rfl rfl rfl (fun _ _ h => .inr h.2) (fun W hW => (slot_any L.p n x W (by omega)).mono fun e w' ⟨g1, g2⟩ => ⟨_, g1, rfl, hW.2.trans (g2.mono hW.2.size)⟩) ?_
    rintro _ ⟨_, rfl, _⟩
    refine ZE.callR [dkV L.p n, .int .i64 ((1 + 2 * x : Nat) : Int)] (fun v W => Ob W wi.heap.size v (S (1 + 2 * x) ++ S (1 + 2 * x + 1)) ∧ Below wi.heap.size wi W) enter48 rfl rfl rfl (fun _ _ h => .inr h.2) (fun W hW => by rw [← ti.p]; exact (readPage_ok n (di.below hW.2) (1 + 2 * x) (by omega) (by omega)).mono fun e w' ⟨u, g1, g2, g3⟩ => ⟨u, g1, g2.mono hW.2.size, hW.2.trans (g3.mono hW.2.size)⟩) ?_
    rintro vp ⟨_, _, _⟩
    refine ZE.callR [dkV L.p n, .int .i64 ((1 + 2 * (n + x) : Nat) : Int), vp] (fun v W => v = .tuple #[] ∧ ∃ L', Turn wi W Li L' ∧ Dk W L' N (hom1 n S x) (m + 2 * t + 2) (c + 2 * t + 2)) enter54 rfl rfl rfl (fun _ _ _ => .inl rfl) (fun W hW => by
      rw [← ti.p]
      have l1 := di.len (1 + 2 * x) (by omega)
      have l2 := di.len (1 + 2 * x + 1) (by omega)
      refine (writePage_ok n (di.below hW.2) (1 + 2 * (n + x)) (by omega) (by omega) vp _ (by rw [List.length_append, l1, l2]) hW.1.has (fun k hk hF => by have := di.lt _ hF; have := hW.1.base k hk; omega) (by omega) (by omega)).mono fun e w' ⟨g1, L', g2, g3⟩ => ⟨_, g1, rfl, L', g2.pre hW.2, ?_⟩
      rw [List.take_left' l1, List.drop_left' l1] at g3
      exact g3) ?_
    rintro _ ⟨_, rfl, _⟩
    rintro w4 ⟨_, L4, t4, d4⟩
    refine pn_block ?_
    refine EW.on ?_
    refine EW.region ?_
    first | refine WL.bin rfl rfl rfl rfl (int_add ‹_› _ _ _) ?_
    first | refine WL.move rfl rfl rfl ?_
    refine WL.done ?_
    refine EW.again (E := rpE q mv vl (numsT bs 256).length) (R := RpR w2 L N n s m c (numsT bs 256)) (m := fun x => (numsT bs 256).length - x.1) (x := (t, Li)) (t + 1, L4) [1, 2, 7, 8, 9] rfl ⟨ti.trans t4, by rw [homT_snoc n s _ t x hx, hS]; exact d4, by show t + 1 ≤ _; omega⟩ (by show _ - (t + 1) < _ - t; omega)
  · refine EW.exit ?_
    refine px_then ?_
    refine px_then ?_
    refine px_block ?_
    refine EW.on ?_
    refine EW.seq ?_
    have hte : t = (numsT bs 256).length := by omega
    have bi := b2.fx ti.fx hqF
    refine EW.region ?_
    refine WL.load rfl rfl rfl (ld55 bi) ?_
    have hcal6 : c + 2 * t < 1000000000000 := by omega
    refine WL.call [dkV L.p n] enter56 rfl rfl rfl (by rw [← ti.p]; exact kflush_ok n di hcal6) ?_
    rintro _ w6 ⟨rfl, L6, t6, d6⟩
    have t06 := ti.trans t6
    have b6 := b2.fx t06.fx hqF
    have v6 := v2.fx t06.fx hvF
    refine ⟨_, rfl, ?_⟩
    refine WL.done ?_
    refine EW.on ?_
    refine EW.seq ?_
    refine EW.ordB [(0, 0, 1), (1, 0, 0), (2, 1, 1), (3, 1, 0)] (by kernel_rfl) rfl (by kernel_rfl) ?_
    simp only [opsZ, List.getD_cons_zero, List.getD_cons_succ]
    refine ZE.load rfl rfl rfl rfl sz1 (fun W hW => ld55 (b6.on (sb_of hW))) ?_
    first | refine ZE.move rfl rfl rfl rfl sz0 ?_
    refine ZE.callR [mv] (fun v W => Ob W w6.heap.size v (bs.set 511 0) ∧ Below w6.heap.size w6 W) enter58 rfl rfl rfl (fun _ _ h => .inr h.2) (fun W hW => (off_any mv bs W (v6.below hW) hl).mono fun e w' ⟨u, g1, g2, g3⟩ => ⟨u, g1, g2.mono hW.size, hW.trans (g3.mono hW.size)⟩) ?_
    rintro vo ⟨_, _, _⟩
    refine ZE.callR [dkV L.p n, .int .i64 ((0 : Nat) : Int), vo] (fun v W => v = .tuple #[] ∧ ∃ L', Turn w6 W L6 L' ∧ Dk W L' N (setS S 0 (bs.set 511 0)) 1 (c + 2 * t + 1 + 1)) enter57 rfl rfl rfl (fun _ _ _ => .inl rfl) (fun W hW => by
      rw [← t06.p]
      exact (kwrite_ok n (d6.below hW.2) 0 (by omega) vo _ (by simp [hl]) hW.1.has (by omega) (by omega)).mono fun e w' ⟨g1, L', g2, g3⟩ => ⟨_, g1, rfl, L', g2.pre hW.2, g3⟩) ?_
    rintro _ ⟨_, rfl, _⟩
    rintro w7 ⟨_, L7, t7, d7⟩
    have t07 := t06.trans t7
    have b7 := b2.fx t07.fx hqF
    refine EW.on ?_
    refine EW.region ?_
    refine WL.load rfl rfl rfl (ld55 b7) ?_
    refine WL.call [dkV L.p n] enter56 rfl rfl rfl (by rw [← t07.p]; exact kflush_ok n d7 (by omega)) ?_
    rintro _ w8 ⟨rfl, L8, t8, d8⟩
    refine ⟨_, rfl, ?_⟩
    refine WL.done ?_
    exact EW.falls Tryz.results43 ⟨rfl, L8, _, (t07.trans t8).pre e12, by rw [← hS, hte, List.take_length] at d8; exact d8, by omega⟩
end Go.Proofs.YtomioemhjhhbcaaGreatDoor
