import Derived.Test.YteghbkeaojbdgaaPa
set_option linter.unusedVariables false
set_option linter.unusedSimpArgs false
namespace Go.Proofs.Yteghbkeaojbdgaa
open Go.RowKit

/-- Numbers in a block. -/
def iv (xs : List Int) : List Value := xs.map (Value.int .i64)
theorem iv_at {xs : List Int} {m : Nat} {x : Int} (h : xs[m]? = some x) : (iv xs)[m]? = some (.int .i64 x) := by
  rw [iv, List.getElem?_map, h]; rfl
theorem bsl43 (a b : Int) (w : World) : (Instr.buildSlice 43 2 [(0, .int .i64 a), (1, .int .i64 b)].toArray).run Try.prog w = .ok (.slice (some ⟨w.heap.size, 0, none⟩) 2 2) (w.alloc (.cells (iv [a, b]).toArray 3)) := by
  go_simp
  try rfl
theorem len43 (ao : Option Addr) (n c : Nat) (W : World) (ty : TypeId) : (Builtin.len_ #[43] ty #[.slice ao n c]).run Try.prog W = .ok (.int .i64 (n : Int)) W := by go_simp
theorem idx43 (q n c m : Nat) (h : m < n) (W : World) : (Instr.indexAt 43 (.slice (some ⟨q, 0, none⟩) n c) (.int .i64 (m : Int))).run Try.prog W = .ok (.pointer (some ⟨q, m, none⟩)) W := by
  have hm : (m : Int) < (n : Int) := by omega
  go_simp
  try simp
  try rw [add_plain]
/-- The first that is not 0. -/
def orL : List Int → Int
  | [] => 0
  | x :: xs => if x = 0 then orL xs else x
theorem orL_drop (xs : List Int) : ∀ t, (∀ i x, i < t → xs[i]? = some x → x = 0) → orL xs = orL (xs.drop t)
  | 0, _ => rfl
  | t + 1, h => by
    rw [orL_drop xs t (fun i x hi => h i x (by omega))]
    cases hd : xs.drop t with
    | nil => rw [List.drop_eq_nil_of_le (by have := List.drop_eq_nil_iff.1 hd; omega)]
    | cons y ys =>
      have hy : xs[t]? = some y := by
        have := congrArg (fun l => l[0]?) hd
        simpa using this
      rw [orL, if_pos (h t y (by omega) hy), show xs.drop (t + 1) = ys by rw [← List.tail_drop, hd]; rfl]
def orE (q n c t : Nat) : List (Nat × Value) := [(3, .int .i64 0), (6, .slice (some ⟨q, 0, none⟩) n c), (7, .int .i64 (n : Int)), (8, .int .i64 (t : Int))]
def OrR (xs : List Int) (w : World) (t : Nat) (w' : World) : Prop := w' = w ∧ t ≤ xs.length ∧ ∀ i x, i < t → xs[i]? = some x → x = 0
set_option maxRecDepth 100000 in
set_option maxHeartbeats 1000000 in
theorem or_any (q c : Nat) (xs : List Int) (hl : xs.length < 4611686018427387904) (w : World) (hb : Blk w q (iv xs) 3) : Calls Try.prog 34 #[.slice (some ⟨q, 0, none⟩) xs.length c] w fun e w' => e = .returned (.int .i64 (orL xs)) ∧ w' = w := by
  refine calls_of_args [.slice (some ⟨q, 0, none⟩) xs.length c] Try.func34 rfl 18 Try.ntmps34 (by show 1 ≤ 18; decide) ?_
  refine EW.seq ?_
  refine EW.region ?_
  first | refine WL.assign rfl rfl rfl ?_
  refine WL.done ?_
  refine EW.on ?_
  refine EW.seq ?_
  refine EW.region ?_
  first | refine WL.assign rfl rfl rfl ?_
  refine WL.done ?_
  refine EW.on ?_
  refine EW.seq ?_
  refine EW.seq ?_
  refine EW.region ?_
  first | refine WL.move rfl rfl rfl ?_
  refine WL.len rfl rfl rfl (len43 _ _ _ _ _) ?_
  first | refine WL.move rfl rfl rfl ?_
  refine WL.done ?_
  refine EW.on ?_
  refine EW.block ?_
  refine EW.loop (orE q xs.length c) (OrR xs w) (fun t => xs.length - t) 0 [3, 6, 7, 8] rfl ⟨rfl, Nat.zero_le _, fun i x hi => absurd hi (Nat.not_lt_zero _)⟩ ?_
  rintro t wr ⟨rfl, ht, hz⟩
  show EW _ _ _ _ [(3, .int .i64 0), (6, .slice (some ⟨q, 0, none⟩) xs.length c), (7, .int .i64 (xs.length : Int)), (8, .int .i64 (t : Int))] _
  refine EW.seq ?_
  refine EW.region ?_
  first | refine WL.bin rfl rfl rfl rfl (int_lt_t ‹_› _ _ _) ?_ | refine WL.bin rfl rfl rfl rfl (int_lt_f ‹_› _ _ _) ?_ | refine WL.bin rfl rfl rfl rfl (int_lt_d _ _ _ _ _) ?_
  refine WL.done ?_
  refine EW.on ?_
  refine EW.seq ?_
  refine EW.cond_d rfl (fun h9 => ?_) (fun h9 => ?_)
  · refine EW.skip ?_
    refine EW.on ?_
    refine EW.seq ?_
    refine EW.block ?_
    refine EW.seq ?_
    have h9 : t < xs.length := by omega
    obtain ⟨x, hx⟩ : ∃ x, xs[t]? = some x := ⟨_, List.getElem?_eq_getElem h9⟩
    refine EW.region ?_
    refine WL.index rfl rfl rfl rfl (idx43 q _ c t h9 _) ?_
    refine WL.load rfl rfl rfl (ldI hb (iv_at hx)) ?_
    first | refine WL.assign rfl rfl rfl ?_
    refine WL.done ?_
    refine EW.on ?_
    refine EW.seq ?_
    refine EW.region ?_
    first | refine WL.move rfl rfl rfl ?_
    first | refine WL.move rfl rfl rfl ?_
    first | refine WL.bin rfl rfl rfl rfl (int_ne_f rfl _ _ _) ?_ | refine WL.bin rfl rfl rfl rfl (int_ne_t ‹_› _ _ _) ?_ | refine WL.bin rfl rfl rfl rfl (int_ne_f ‹_› _ _ _) ?_ | refine WL.bin rfl rfl rfl rfl (int_ne_t (by decide) _ _ _) ?_ | refine WL.bin rfl rfl rfl rfl (int_ne_d _ _ _ _ _) ?_
    refine WL.done ?_
    refine EW.on ?_
    refine EW.cond_d rfl (fun h14 => ?_) (fun h14 => ?_)
    · refine EW.seq ?_
      have hr : orL xs = x := by
        rw [orL_drop xs t hz, List.drop_eq_getElem_cons h9, orL]
        have : xs[t] = x := by
          rw [List.getElem?_eq_getElem h9] at hx
          exact Option.some.inj hx
        rw [this, if_neg h14]
      refine EW.region ?_
      first | refine WL.move rfl rfl rfl ?_
      first | refine WL.assign rfl rfl rfl ?_
      refine WL.done ?_
      refine EW.on ?_
      refine EW.ret ?_
      refine pr_block ?_
      refine pr_then ?_
      refine pr_then ?_
      refine pr_block ?_
      refine pr_then ?_
      exact EW.returns Try.results34 rfl ⟨by rw [hr], rfl⟩
    · refine EW.skip ?_
      refine pn_block ?_
      refine EW.on ?_
      have tn : IntKind.i64.wrap ((t : Int) + 1) = ((t + 1 : Nat) : Int) := by rw [IntKind.wrap_i64]; omega
      refine EW.region ?_
      first | refine WL.bin rfl rfl rfl rfl (int_add ‹_› _ _ _) ?_
      first | refine WL.move rfl rfl rfl ?_
      refine WL.done ?_
      refine EW.again (E := orE q xs.length c) (R := OrR xs wr) (m := fun t => xs.length - t) (x := t) (t + 1) [3, 6, 7, 8] rfl ⟨rfl, by omega, fun i y hi hy => ?_⟩ (by show xs.length - (t + 1) < xs.length - t; omega)
      rcases Nat.lt_or_ge i t with hlt | hge
      · exact hz i y hlt hy
      · obtain rfl : i = t := by omega
        rw [hx] at hy
        cases hy
        exact Decidable.not_not.1 h14
  · refine EW.exit ?_
    refine px_then ?_
    refine px_then ?_
    refine px_block ?_
    refine EW.on ?_
    refine EW.seq ?_
    have hr : orL xs = 0 := by
      rw [orL_drop xs t hz, List.drop_eq_nil_of_le (by omega)]; rfl
    refine EW.region ?_
    first | refine WL.move rfl rfl rfl ?_
    first | refine WL.assign rfl rfl rfl ?_
    refine WL.done ?_
    refine EW.on ?_
    refine EW.ret ?_
    exact EW.returns Try.results34 rfl ⟨by rw [hr], rfl⟩
def cmpR (r s : RV) : Int := orL [cmpI r.t s.t, Lib.compareBytes r.k s.k]
set_option maxRecDepth 100000 in
set_option maxHeartbeats 1000000 in
theorem cmpr_any (r s : RV) (w : World) (hr : r.ok w) (hs : s.ok w) : Calls Try.prog 13 #[r.val, s.val] w fun e w' => e = .returned (.int .i64 (cmpR r s)) ∧ Below w.heap.size w w' := by
  obtain ⟨w1, q1, r1, b1, e1, _⟩ := box32 r w
  obtain ⟨w2, q2, r2, b2, f2, _⟩ := box32 s w1
  have e2 := e1.trans (f2.mono e1.size)
  replace b1 := b1.on f2
  refine calls_of_args [r.val, s.val] Try.func13 rfl 17 Try.ntmps13 (by show 2 ≤ 17; decide) ?_
  refine EW.seq ?_
  refine EW.region ?_
  refine WL.box rfl rfl rfl r1 ?_
  refine WL.box rfl rfl rfl r2 ?_
  first | refine WL.assign rfl rfl rfl ?_
  refine WL.done ?_
  refine EW.on ?_
  refine EW.seq ?_
  refine EW.ordB [(0, 0, 0), (1, 0, 1), (2, 0, 0), (3, 0, 1), (5, 0, 0), (6, 0, 1), (7, 0, 0), (8, 0, 1), (4, 1, 1), (9, 1, 1), (10, 1, 1), (11, 1, 1), (12, 0, 0)] (by kernel_rfl) rfl (by kernel_rfl) ?_
  simp only [opsZ, List.getD_cons_zero, List.getD_cons_succ]
  refine ZE.field rfl rfl rfl rfl sz0 (fun W => rfld0 _ W) ?_
  first | refine ZE.load rfl rfl rfl rfl sz1 (fun W hW => ldI (b1.on (sb_of hW)) rfl) ?_ | refine ZE.load rfl rfl rfl rfl sz1 (fun W hW => ldI (b2.on (sb_of hW)) rfl) ?_
  refine ZE.field rfl rfl rfl rfl sz0 (fun W => rfld0 _ W) ?_
  first | refine ZE.load rfl rfl rfl rfl sz1 (fun W hW => ldI (b1.on (sb_of hW)) rfl) ?_ | refine ZE.load rfl rfl rfl rfl sz1 (fun W hW => ldI (b2.on (sb_of hW)) rfl) ?_
  refine ZE.field rfl rfl rfl rfl sz0 (fun W => rfld1 _ W) ?_
  first | refine ZE.load rfl rfl rfl rfl sz1 (fun W hW => ldS (b1.on (sb_of hW)) rfl) ?_ | refine ZE.load rfl rfl rfl rfl sz1 (fun W hW => ldS (b2.on (sb_of hW)) rfl) ?_
  refine ZE.field rfl rfl rfl rfl sz0 (fun W => rfld1 _ W) ?_
  first | refine ZE.load rfl rfl rfl rfl sz1 (fun W hW => ldS (b1.on (sb_of hW)) rfl) ?_ | refine ZE.load rfl rfl rfl rfl sz1 (fun W hW => ldS (b2.on (sb_of hW)) rfl) ?_
  refine ZE.callB [.int .i64 r.t, .int .i64 s.t] enter35 rfl rfl rfl (fun W h => .inr h) (fun W _ => (cmpi_any _ _ W).mono fun e w' h => ⟨h.1, by rw [h.2]; exact Below.refl _ _⟩) ?_
  refine ZE.callB [r.vk, s.vk] enter36 rfl rfl rfl (fun W h => .inr h) (fun W hW => (cmpb_any _ _ _ _ W (hr.hk.below (e2.trans (hW.mono e2.size))) (hs.hk.below (e2.trans (hW.mono e2.size)))).mono fun e w' h => ⟨h.1, by rw [h.2]; exact Below.refl _ _⟩) ?_
  refine ZE.bsl [(0, .int .i64 (cmpI r.t s.t)), (1, .int .i64 (Lib.compareBytes r.k s.k))] (fun v W => ∃ q, v = .slice (some ⟨q, 0, none⟩) 2 2 ∧ Blk W q (iv [cmpI r.t s.t, Lib.compareBytes r.k s.k]) 3 ∧ Below w2.heap.size w2 W) rfl rfl rfl (fun _ _ ⟨_, _, _, h⟩ => .inr h) (fun W hW => ⟨_, _, bsl43 _ _ W, W.heap.size, rfl, Blk.new _ _ _, hW.trans ((below_new W _).mono hW.size)⟩) ?_
  rintro _ ⟨_, q, rfl, _, _⟩
  refine ZE.callV [.slice (some ⟨q, 0, none⟩) 2 2] (.int .i64 (cmpR r s)) (fun W => Below w2.heap.size w2 W) enter34 rfl rfl rfl (fun W h => .inr h) (fun W ⟨q', hq', hbq, hbe⟩ => by cases hq'; exact (or_any q 2 [cmpI r.t s.t, Lib.compareBytes r.k s.k] (by show 2 < 4611686018427387904; decide) W hbq).mono fun e w' h => ⟨h.1, by rw [h.2]; exact hbe⟩) ?_
  first | refine ZE.assign rfl rfl rfl rfl sz0 ?_
  intro w3 h3
  refine EW.on ?_
  refine EW.ret ?_
  exact EW.returns Try.results13 rfl ⟨rfl, e2.trans (h3.mono e2.size)⟩
def okR (r : RV) : Bool := decide (0 ≤ r.t ∧ r.t ≤ 15 ∧ 1 ≤ r.k.length ∧ r.k.length ≤ 64 ∧ r.v.length ≤ 900)
def errR (r : RV) : Int := if okR r then 0 else 110
def sizeR (r : RV) : Nat := 4 + r.k.length + r.v.length
theorem Has.maxL {w : World} {v : Value} {bs : List UInt8} (h : Has w v bs) : True := trivial
set_option maxRecDepth 100000 in
set_option maxHeartbeats 1000000 in
theorem size_any (r : RV) (w : World) (hr : r.ok w) (hk : r.k.length ≤ 140737488355328) (hv : r.v.length ≤ 140737488355328) : Calls Try.prog 19 #[r.val] w fun e w' => e = .returned (.int .i64 (sizeR r : Int)) ∧ Below w.heap.size w w' := by
  obtain ⟨w1, q1, r1, b1, e1, _⟩ := box32 r w
  have a1 : IntKind.i64.wrap (4 + (r.k.length : Int)) = 4 + (r.k.length : Int) := by rw [IntKind.wrap_i64]; omega
  have a2 : IntKind.i64.wrap (4 + (r.k.length : Int) + (r.v.length : Int)) = (sizeR r : Int) := by rw [IntKind.wrap_i64]; unfold sizeR; omega
  refine calls_of_args [r.val] Try.func19 rfl 11 Try.ntmps19 (by show 1 ≤ 11; decide) ?_
  refine EW.seq ?_
  refine EW.region ?_
  refine WL.box rfl rfl rfl r1 ?_
  first | refine WL.assign rfl rfl rfl ?_
  refine WL.done ?_
  refine EW.on ?_
  refine EW.seq ?_
  refine EW.region ?_
  first | refine WL.field rfl rfl rfl (rfld1 _ _) ?_
  first | refine WL.load rfl rfl rfl (ldS b1 rfl) ?_
  first | refine WL.len rfl rfl rfl (hr.hk.len _ _) ?_ | refine WL.len rfl rfl rfl (hr.hv.len _ _) ?_
  first | refine WL.bin rfl rfl rfl rfl (int_add ‹_› _ _ _) ?_
  first | refine WL.field rfl rfl rfl (rfld2 _ _) ?_
  first | refine WL.load rfl rfl rfl (ldS b1 rfl) ?_
  first | refine WL.len rfl rfl rfl (hr.hk.len _ _) ?_ | refine WL.len rfl rfl rfl (hr.hv.len _ _) ?_
  first | refine WL.bin rfl rfl rfl rfl (int_add ‹_› _ _ _) ?_
  first | refine WL.assign rfl rfl rfl ?_
  refine WL.done ?_
  refine EW.on ?_
  refine EW.ret ?_
  exact EW.returns Try.results19 rfl ⟨rfl, e1⟩
set_option maxRecDepth 100000 in
set_option maxHeartbeats 1000000 in
theorem check_any (r : RV) (w : World) (hr : r.ok w) : Calls Try.prog 37 #[r.val] w fun e w' => e = .returned (.int .i64 (errR r)) ∧ Below w.heap.size w w' := by
  obtain ⟨w1, q1, r1, b1, e1, _⟩ := box32 r w
  by_cases h1 : r.t < 0
  · have he : errR r = 110 := by unfold errR okR; rw [decide_eq_false (by omega)]; rfl
    refine calls_of_args [r.val] Try.func37 rfl 29 Try.ntmps37 (by show 1 ≤ 29; decide) ?_
    refine EW.seq ?_
    refine EW.region ?_
    refine WL.box rfl rfl rfl r1 ?_
    first | refine WL.assign rfl rfl rfl ?_
    refine WL.done ?_
    refine EW.on ?_
    refine EW.seq ?_
    refine EW.seq ?_
    refine EW.region ?_
    first | refine WL.field rfl rfl rfl (rfld0 _ _) ?_
    first | refine WL.load rfl rfl rfl (ldI b1 rfl) ?_
    first | refine WL.bin rfl rfl rfl rfl (int_lt_t ‹_› _ _ _) ?_ | refine WL.bin rfl rfl rfl rfl (int_lt_f ‹_› _ _ _) ?_ | refine WL.bin rfl rfl rfl rfl (int_lt_d _ _ _ _ _) ?_
    first | refine WL.move rfl rfl rfl ?_
    first | refine WL.field rfl rfl rfl (rfld0 _ _) ?_ | refine WL.skip _ rfl rfl rfl ?_
    first | refine WL.load rfl rfl rfl (ldI b1 rfl) ?_ | refine WL.skip _ rfl rfl rfl ?_
    first | refine WL.bin rfl rfl rfl rfl (int_gt_t ‹_› _ _ _) ?_ | refine WL.bin rfl rfl rfl rfl (int_gt_f ‹_› _ _ _) ?_ | refine WL.bin rfl rfl rfl rfl (int_gt_d _ _ _ _ _) ?_ | refine WL.skip _ rfl rfl rfl ?_
    first | refine WL.pick rfl rfl rfl rfl ?_
    first | refine WL.move rfl rfl rfl ?_
    first | refine WL.field rfl rfl rfl (rfld1 _ _) ?_ | refine WL.skip _ rfl rfl rfl ?_
    first | refine WL.load rfl rfl rfl (ldS b1 rfl) ?_ | refine WL.skip _ rfl rfl rfl ?_
    first | refine WL.len rfl rfl rfl (hr.hk.len _ _) ?_ | refine WL.len rfl rfl rfl (hr.hv.len _ _) ?_ | refine WL.skip _ rfl rfl rfl ?_
    first | refine WL.bin rfl rfl rfl rfl (int_lt_t ‹_› _ _ _) ?_ | refine WL.bin rfl rfl rfl rfl (int_lt_f ‹_› _ _ _) ?_ | refine WL.bin rfl rfl rfl rfl (int_lt_d _ _ _ _ _) ?_ | refine WL.skip _ rfl rfl rfl ?_
    first | refine WL.pick rfl rfl rfl rfl ?_
    first | refine WL.move rfl rfl rfl ?_
    first | refine WL.field rfl rfl rfl (rfld1 _ _) ?_ | refine WL.skip _ rfl rfl rfl ?_
    first | refine WL.load rfl rfl rfl (ldS b1 rfl) ?_ | refine WL.skip _ rfl rfl rfl ?_
    first | refine WL.len rfl rfl rfl (hr.hk.len _ _) ?_ | refine WL.len rfl rfl rfl (hr.hv.len _ _) ?_ | refine WL.skip _ rfl rfl rfl ?_
    first | refine WL.bin rfl rfl rfl rfl (int_gt_t ‹_› _ _ _) ?_ | refine WL.bin rfl rfl rfl rfl (int_gt_f ‹_› _ _ _) ?_ | refine WL.bin rfl rfl rfl rfl (int_gt_d _ _ _ _ _) ?_ | refine WL.skip _ rfl rfl rfl ?_
    first | refine WL.pick rfl rfl rfl rfl ?_
    first | refine WL.move rfl rfl rfl ?_
    first | refine WL.field rfl rfl rfl (rfld2 _ _) ?_ | refine WL.skip _ rfl rfl rfl ?_
    first | refine WL.load rfl rfl rfl (ldS b1 rfl) ?_ | refine WL.skip _ rfl rfl rfl ?_
    first | refine WL.len rfl rfl rfl (hr.hk.len _ _) ?_ | refine WL.len rfl rfl rfl (hr.hv.len _ _) ?_ | refine WL.skip _ rfl rfl rfl ?_
    first | refine WL.bin rfl rfl rfl rfl (int_gt_t ‹_› _ _ _) ?_ | refine WL.bin rfl rfl rfl rfl (int_gt_f ‹_› _ _ _) ?_ | refine WL.bin rfl rfl rfl rfl (int_gt_d _ _ _ _ _) ?_ | refine WL.skip _ rfl rfl rfl ?_
    first | refine WL.pick rfl rfl rfl rfl ?_
    refine WL.done ?_
    refine EW.on ?_
    refine EW.cond_t rfl ?_
    refine EW.seq ?_
    refine EW.region ?_
    first | refine WL.assign rfl rfl rfl ?_
    refine WL.done ?_
    refine EW.on ?_
    refine EW.ret ?_
    refine pr_then ?_
    exact EW.returns Try.results37 rfl ⟨by rw [he], e1⟩
  by_cases h2 : 15 < r.t
  · have he : errR r = 110 := by unfold errR okR; rw [decide_eq_false (by omega)]; rfl
    refine calls_of_args [r.val] Try.func37 rfl 29 Try.ntmps37 (by show 1 ≤ 29; decide) ?_
    refine EW.seq ?_
    refine EW.region ?_
    refine WL.box rfl rfl rfl r1 ?_
    first | refine WL.assign rfl rfl rfl ?_
    refine WL.done ?_
    refine EW.on ?_
    refine EW.seq ?_
    refine EW.seq ?_
    refine EW.region ?_
    first | refine WL.field rfl rfl rfl (rfld0 _ _) ?_
    first | refine WL.load rfl rfl rfl (ldI b1 rfl) ?_
    first | refine WL.bin rfl rfl rfl rfl (int_lt_t ‹_› _ _ _) ?_ | refine WL.bin rfl rfl rfl rfl (int_lt_f ‹_› _ _ _) ?_ | refine WL.bin rfl rfl rfl rfl (int_lt_d _ _ _ _ _) ?_
    first | refine WL.move rfl rfl rfl ?_
    first | refine WL.field rfl rfl rfl (rfld0 _ _) ?_ | refine WL.skip _ rfl rfl rfl ?_
    first | refine WL.load rfl rfl rfl (ldI b1 rfl) ?_ | refine WL.skip _ rfl rfl rfl ?_
    first | refine WL.bin rfl rfl rfl rfl (int_gt_t ‹_› _ _ _) ?_ | refine WL.bin rfl rfl rfl rfl (int_gt_f ‹_› _ _ _) ?_ | refine WL.bin rfl rfl rfl rfl (int_gt_d _ _ _ _ _) ?_ | refine WL.skip _ rfl rfl rfl ?_
    first | refine WL.pick rfl rfl rfl rfl ?_
    first | refine WL.move rfl rfl rfl ?_
    first | refine WL.field rfl rfl rfl (rfld1 _ _) ?_ | refine WL.skip _ rfl rfl rfl ?_
    first | refine WL.load rfl rfl rfl (ldS b1 rfl) ?_ | refine WL.skip _ rfl rfl rfl ?_
    first | refine WL.len rfl rfl rfl (hr.hk.len _ _) ?_ | refine WL.len rfl rfl rfl (hr.hv.len _ _) ?_ | refine WL.skip _ rfl rfl rfl ?_
    first | refine WL.bin rfl rfl rfl rfl (int_lt_t ‹_› _ _ _) ?_ | refine WL.bin rfl rfl rfl rfl (int_lt_f ‹_› _ _ _) ?_ | refine WL.bin rfl rfl rfl rfl (int_lt_d _ _ _ _ _) ?_ | refine WL.skip _ rfl rfl rfl ?_
    first | refine WL.pick rfl rfl rfl rfl ?_
    first | refine WL.move rfl rfl rfl ?_
    first | refine WL.field rfl rfl rfl (rfld1 _ _) ?_ | refine WL.skip _ rfl rfl rfl ?_
    first | refine WL.load rfl rfl rfl (ldS b1 rfl) ?_ | refine WL.skip _ rfl rfl rfl ?_
    first | refine WL.len rfl rfl rfl (hr.hk.len _ _) ?_ | refine WL.len rfl rfl rfl (hr.hv.len _ _) ?_ | refine WL.skip _ rfl rfl rfl ?_
    first | refine WL.bin rfl rfl rfl rfl (int_gt_t ‹_› _ _ _) ?_ | refine WL.bin rfl rfl rfl rfl (int_gt_f ‹_› _ _ _) ?_ | refine WL.bin rfl rfl rfl rfl (int_gt_d _ _ _ _ _) ?_ | refine WL.skip _ rfl rfl rfl ?_
    first | refine WL.pick rfl rfl rfl rfl ?_
    first | refine WL.move rfl rfl rfl ?_
    first | refine WL.field rfl rfl rfl (rfld2 _ _) ?_ | refine WL.skip _ rfl rfl rfl ?_
    first | refine WL.load rfl rfl rfl (ldS b1 rfl) ?_ | refine WL.skip _ rfl rfl rfl ?_
    first | refine WL.len rfl rfl rfl (hr.hk.len _ _) ?_ | refine WL.len rfl rfl rfl (hr.hv.len _ _) ?_ | refine WL.skip _ rfl rfl rfl ?_
    first | refine WL.bin rfl rfl rfl rfl (int_gt_t ‹_› _ _ _) ?_ | refine WL.bin rfl rfl rfl rfl (int_gt_f ‹_› _ _ _) ?_ | refine WL.bin rfl rfl rfl rfl (int_gt_d _ _ _ _ _) ?_ | refine WL.skip _ rfl rfl rfl ?_
    first | refine WL.pick rfl rfl rfl rfl ?_
    refine WL.done ?_
    refine EW.on ?_
    refine EW.cond_t rfl ?_
    refine EW.seq ?_
    refine EW.region ?_
    first | refine WL.assign rfl rfl rfl ?_
    refine WL.done ?_
    refine EW.on ?_
    refine EW.ret ?_
    refine pr_then ?_
    exact EW.returns Try.results37 rfl ⟨by rw [he], e1⟩
  by_cases h3 : (r.k.length : Int) < 1
  · have he : errR r = 110 := by unfold errR okR; rw [decide_eq_false (by omega)]; rfl
    refine calls_of_args [r.val] Try.func37 rfl 29 Try.ntmps37 (by show 1 ≤ 29; decide) ?_
    refine EW.seq ?_
    refine EW.region ?_
    refine WL.box rfl rfl rfl r1 ?_
    first | refine WL.assign rfl rfl rfl ?_
    refine WL.done ?_
    refine EW.on ?_
    refine EW.seq ?_
    refine EW.seq ?_
    refine EW.region ?_
    first | refine WL.field rfl rfl rfl (rfld0 _ _) ?_
    first | refine WL.load rfl rfl rfl (ldI b1 rfl) ?_
    first | refine WL.bin rfl rfl rfl rfl (int_lt_t ‹_› _ _ _) ?_ | refine WL.bin rfl rfl rfl rfl (int_lt_f ‹_› _ _ _) ?_ | refine WL.bin rfl rfl rfl rfl (int_lt_d _ _ _ _ _) ?_
    first | refine WL.move rfl rfl rfl ?_
    first | refine WL.field rfl rfl rfl (rfld0 _ _) ?_ | refine WL.skip _ rfl rfl rfl ?_
    first | refine WL.load rfl rfl rfl (ldI b1 rfl) ?_ | refine WL.skip _ rfl rfl rfl ?_
    first | refine WL.bin rfl rfl rfl rfl (int_gt_t ‹_› _ _ _) ?_ | refine WL.bin rfl rfl rfl rfl (int_gt_f ‹_› _ _ _) ?_ | refine WL.bin rfl rfl rfl rfl (int_gt_d _ _ _ _ _) ?_ | refine WL.skip _ rfl rfl rfl ?_
    first | refine WL.pick rfl rfl rfl rfl ?_
    first | refine WL.move rfl rfl rfl ?_
    first | refine WL.field rfl rfl rfl (rfld1 _ _) ?_ | refine WL.skip _ rfl rfl rfl ?_
    first | refine WL.load rfl rfl rfl (ldS b1 rfl) ?_ | refine WL.skip _ rfl rfl rfl ?_
    first | refine WL.len rfl rfl rfl (hr.hk.len _ _) ?_ | refine WL.len rfl rfl rfl (hr.hv.len _ _) ?_ | refine WL.skip _ rfl rfl rfl ?_
    first | refine WL.bin rfl rfl rfl rfl (int_lt_t ‹_› _ _ _) ?_ | refine WL.bin rfl rfl rfl rfl (int_lt_f ‹_› _ _ _) ?_ | refine WL.bin rfl rfl rfl rfl (int_lt_d _ _ _ _ _) ?_ | refine WL.skip _ rfl rfl rfl ?_
    first | refine WL.pick rfl rfl rfl rfl ?_
    first | refine WL.move rfl rfl rfl ?_
    first | refine WL.field rfl rfl rfl (rfld1 _ _) ?_ | refine WL.skip _ rfl rfl rfl ?_
    first | refine WL.load rfl rfl rfl (ldS b1 rfl) ?_ | refine WL.skip _ rfl rfl rfl ?_
    first | refine WL.len rfl rfl rfl (hr.hk.len _ _) ?_ | refine WL.len rfl rfl rfl (hr.hv.len _ _) ?_ | refine WL.skip _ rfl rfl rfl ?_
    first | refine WL.bin rfl rfl rfl rfl (int_gt_t ‹_› _ _ _) ?_ | refine WL.bin rfl rfl rfl rfl (int_gt_f ‹_› _ _ _) ?_ | refine WL.bin rfl rfl rfl rfl (int_gt_d _ _ _ _ _) ?_ | refine WL.skip _ rfl rfl rfl ?_
    first | refine WL.pick rfl rfl rfl rfl ?_
    first | refine WL.move rfl rfl rfl ?_
    first | refine WL.field rfl rfl rfl (rfld2 _ _) ?_ | refine WL.skip _ rfl rfl rfl ?_
    first | refine WL.load rfl rfl rfl (ldS b1 rfl) ?_ | refine WL.skip _ rfl rfl rfl ?_
    first | refine WL.len rfl rfl rfl (hr.hk.len _ _) ?_ | refine WL.len rfl rfl rfl (hr.hv.len _ _) ?_ | refine WL.skip _ rfl rfl rfl ?_
    first | refine WL.bin rfl rfl rfl rfl (int_gt_t ‹_› _ _ _) ?_ | refine WL.bin rfl rfl rfl rfl (int_gt_f ‹_› _ _ _) ?_ | refine WL.bin rfl rfl rfl rfl (int_gt_d _ _ _ _ _) ?_ | refine WL.skip _ rfl rfl rfl ?_
    first | refine WL.pick rfl rfl rfl rfl ?_
    refine WL.done ?_
    refine EW.on ?_
    refine EW.cond_t rfl ?_
    refine EW.seq ?_
    refine EW.region ?_
    first | refine WL.assign rfl rfl rfl ?_
    refine WL.done ?_
    refine EW.on ?_
    refine EW.ret ?_
    refine pr_then ?_
    exact EW.returns Try.results37 rfl ⟨by rw [he], e1⟩
  by_cases h4 : 64 < (r.k.length : Int)
  · have he : errR r = 110 := by unfold errR okR; rw [decide_eq_false (by omega)]; rfl
    refine calls_of_args [r.val] Try.func37 rfl 29 Try.ntmps37 (by show 1 ≤ 29; decide) ?_
    refine EW.seq ?_
    refine EW.region ?_
    refine WL.box rfl rfl rfl r1 ?_
    first | refine WL.assign rfl rfl rfl ?_
    refine WL.done ?_
    refine EW.on ?_
    refine EW.seq ?_
    refine EW.seq ?_
    refine EW.region ?_
    first | refine WL.field rfl rfl rfl (rfld0 _ _) ?_
    first | refine WL.load rfl rfl rfl (ldI b1 rfl) ?_
    first | refine WL.bin rfl rfl rfl rfl (int_lt_t ‹_› _ _ _) ?_ | refine WL.bin rfl rfl rfl rfl (int_lt_f ‹_› _ _ _) ?_ | refine WL.bin rfl rfl rfl rfl (int_lt_d _ _ _ _ _) ?_
    first | refine WL.move rfl rfl rfl ?_
    first | refine WL.field rfl rfl rfl (rfld0 _ _) ?_ | refine WL.skip _ rfl rfl rfl ?_
    first | refine WL.load rfl rfl rfl (ldI b1 rfl) ?_ | refine WL.skip _ rfl rfl rfl ?_
    first | refine WL.bin rfl rfl rfl rfl (int_gt_t ‹_› _ _ _) ?_ | refine WL.bin rfl rfl rfl rfl (int_gt_f ‹_› _ _ _) ?_ | refine WL.bin rfl rfl rfl rfl (int_gt_d _ _ _ _ _) ?_ | refine WL.skip _ rfl rfl rfl ?_
    first | refine WL.pick rfl rfl rfl rfl ?_
    first | refine WL.move rfl rfl rfl ?_
    first | refine WL.field rfl rfl rfl (rfld1 _ _) ?_ | refine WL.skip _ rfl rfl rfl ?_
    first | refine WL.load rfl rfl rfl (ldS b1 rfl) ?_ | refine WL.skip _ rfl rfl rfl ?_
    first | refine WL.len rfl rfl rfl (hr.hk.len _ _) ?_ | refine WL.len rfl rfl rfl (hr.hv.len _ _) ?_ | refine WL.skip _ rfl rfl rfl ?_
    first | refine WL.bin rfl rfl rfl rfl (int_lt_t ‹_› _ _ _) ?_ | refine WL.bin rfl rfl rfl rfl (int_lt_f ‹_› _ _ _) ?_ | refine WL.bin rfl rfl rfl rfl (int_lt_d _ _ _ _ _) ?_ | refine WL.skip _ rfl rfl rfl ?_
    first | refine WL.pick rfl rfl rfl rfl ?_
    first | refine WL.move rfl rfl rfl ?_
    first | refine WL.field rfl rfl rfl (rfld1 _ _) ?_ | refine WL.skip _ rfl rfl rfl ?_
    first | refine WL.load rfl rfl rfl (ldS b1 rfl) ?_ | refine WL.skip _ rfl rfl rfl ?_
    first | refine WL.len rfl rfl rfl (hr.hk.len _ _) ?_ | refine WL.len rfl rfl rfl (hr.hv.len _ _) ?_ | refine WL.skip _ rfl rfl rfl ?_
    first | refine WL.bin rfl rfl rfl rfl (int_gt_t ‹_› _ _ _) ?_ | refine WL.bin rfl rfl rfl rfl (int_gt_f ‹_› _ _ _) ?_ | refine WL.bin rfl rfl rfl rfl (int_gt_d _ _ _ _ _) ?_ | refine WL.skip _ rfl rfl rfl ?_
    first | refine WL.pick rfl rfl rfl rfl ?_
    first | refine WL.move rfl rfl rfl ?_
    first | refine WL.field rfl rfl rfl (rfld2 _ _) ?_ | refine WL.skip _ rfl rfl rfl ?_
    first | refine WL.load rfl rfl rfl (ldS b1 rfl) ?_ | refine WL.skip _ rfl rfl rfl ?_
    first | refine WL.len rfl rfl rfl (hr.hk.len _ _) ?_ | refine WL.len rfl rfl rfl (hr.hv.len _ _) ?_ | refine WL.skip _ rfl rfl rfl ?_
    first | refine WL.bin rfl rfl rfl rfl (int_gt_t ‹_› _ _ _) ?_ | refine WL.bin rfl rfl rfl rfl (int_gt_f ‹_› _ _ _) ?_ | refine WL.bin rfl rfl rfl rfl (int_gt_d _ _ _ _ _) ?_ | refine WL.skip _ rfl rfl rfl ?_
    first | refine WL.pick rfl rfl rfl rfl ?_
    refine WL.done ?_
    refine EW.on ?_
    refine EW.cond_t rfl ?_
    refine EW.seq ?_
    refine EW.region ?_
    first | refine WL.assign rfl rfl rfl ?_
    refine WL.done ?_
    refine EW.on ?_
    refine EW.ret ?_
    refine pr_then ?_
    exact EW.returns Try.results37 rfl ⟨by rw [he], e1⟩
  by_cases h5 : 900 < (r.v.length : Int)
  · have he : errR r = 110 := by unfold errR okR; rw [decide_eq_false (by omega)]; rfl
    refine calls_of_args [r.val] Try.func37 rfl 29 Try.ntmps37 (by show 1 ≤ 29; decide) ?_
    refine EW.seq ?_
    refine EW.region ?_
    refine WL.box rfl rfl rfl r1 ?_
    first | refine WL.assign rfl rfl rfl ?_
    refine WL.done ?_
    refine EW.on ?_
    refine EW.seq ?_
    refine EW.seq ?_
    refine EW.region ?_
    first | refine WL.field rfl rfl rfl (rfld0 _ _) ?_
    first | refine WL.load rfl rfl rfl (ldI b1 rfl) ?_
    first | refine WL.bin rfl rfl rfl rfl (int_lt_t ‹_› _ _ _) ?_ | refine WL.bin rfl rfl rfl rfl (int_lt_f ‹_› _ _ _) ?_ | refine WL.bin rfl rfl rfl rfl (int_lt_d _ _ _ _ _) ?_
    first | refine WL.move rfl rfl rfl ?_
    first | refine WL.field rfl rfl rfl (rfld0 _ _) ?_ | refine WL.skip _ rfl rfl rfl ?_
    first | refine WL.load rfl rfl rfl (ldI b1 rfl) ?_ | refine WL.skip _ rfl rfl rfl ?_
    first | refine WL.bin rfl rfl rfl rfl (int_gt_t ‹_› _ _ _) ?_ | refine WL.bin rfl rfl rfl rfl (int_gt_f ‹_› _ _ _) ?_ | refine WL.bin rfl rfl rfl rfl (int_gt_d _ _ _ _ _) ?_ | refine WL.skip _ rfl rfl rfl ?_
    first | refine WL.pick rfl rfl rfl rfl ?_
    first | refine WL.move rfl rfl rfl ?_
    first | refine WL.field rfl rfl rfl (rfld1 _ _) ?_ | refine WL.skip _ rfl rfl rfl ?_
    first | refine WL.load rfl rfl rfl (ldS b1 rfl) ?_ | refine WL.skip _ rfl rfl rfl ?_
    first | refine WL.len rfl rfl rfl (hr.hk.len _ _) ?_ | refine WL.len rfl rfl rfl (hr.hv.len _ _) ?_ | refine WL.skip _ rfl rfl rfl ?_
    first | refine WL.bin rfl rfl rfl rfl (int_lt_t ‹_› _ _ _) ?_ | refine WL.bin rfl rfl rfl rfl (int_lt_f ‹_› _ _ _) ?_ | refine WL.bin rfl rfl rfl rfl (int_lt_d _ _ _ _ _) ?_ | refine WL.skip _ rfl rfl rfl ?_
    first | refine WL.pick rfl rfl rfl rfl ?_
    first | refine WL.move rfl rfl rfl ?_
    first | refine WL.field rfl rfl rfl (rfld1 _ _) ?_ | refine WL.skip _ rfl rfl rfl ?_
    first | refine WL.load rfl rfl rfl (ldS b1 rfl) ?_ | refine WL.skip _ rfl rfl rfl ?_
    first | refine WL.len rfl rfl rfl (hr.hk.len _ _) ?_ | refine WL.len rfl rfl rfl (hr.hv.len _ _) ?_ | refine WL.skip _ rfl rfl rfl ?_
    first | refine WL.bin rfl rfl rfl rfl (int_gt_t ‹_› _ _ _) ?_ | refine WL.bin rfl rfl rfl rfl (int_gt_f ‹_› _ _ _) ?_ | refine WL.bin rfl rfl rfl rfl (int_gt_d _ _ _ _ _) ?_ | refine WL.skip _ rfl rfl rfl ?_
    first | refine WL.pick rfl rfl rfl rfl ?_
    first | refine WL.move rfl rfl rfl ?_
    first | refine WL.field rfl rfl rfl (rfld2 _ _) ?_ | refine WL.skip _ rfl rfl rfl ?_
    first | refine WL.load rfl rfl rfl (ldS b1 rfl) ?_ | refine WL.skip _ rfl rfl rfl ?_
    first | refine WL.len rfl rfl rfl (hr.hk.len _ _) ?_ | refine WL.len rfl rfl rfl (hr.hv.len _ _) ?_ | refine WL.skip _ rfl rfl rfl ?_
    first | refine WL.bin rfl rfl rfl rfl (int_gt_t ‹_› _ _ _) ?_ | refine WL.bin rfl rfl rfl rfl (int_gt_f ‹_› _ _ _) ?_ | refine WL.bin rfl rfl rfl rfl (int_gt_d _ _ _ _ _) ?_ | refine WL.skip _ rfl rfl rfl ?_
    first | refine WL.pick rfl rfl rfl rfl ?_
    refine WL.done ?_
    refine EW.on ?_
    refine EW.cond_t rfl ?_
    refine EW.seq ?_
    refine EW.region ?_
    first | refine WL.assign rfl rfl rfl ?_
    refine WL.done ?_
    refine EW.on ?_
    refine EW.ret ?_
    refine pr_then ?_
    exact EW.returns Try.results37 rfl ⟨by rw [he], e1⟩
  · have he : errR r = 0 := by unfold errR okR; rw [decide_eq_true (by omega)]; rfl
    refine calls_of_args [r.val] Try.func37 rfl 29 Try.ntmps37 (by show 1 ≤ 29; decide) ?_
    refine EW.seq ?_
    refine EW.region ?_
    refine WL.box rfl rfl rfl r1 ?_
    first | refine WL.assign rfl rfl rfl ?_
    refine WL.done ?_
    refine EW.on ?_
    refine EW.seq ?_
    refine EW.seq ?_
    refine EW.region ?_
    first | refine WL.field rfl rfl rfl (rfld0 _ _) ?_
    first | refine WL.load rfl rfl rfl (ldI b1 rfl) ?_
    first | refine WL.bin rfl rfl rfl rfl (int_lt_t ‹_› _ _ _) ?_ | refine WL.bin rfl rfl rfl rfl (int_lt_f ‹_› _ _ _) ?_ | refine WL.bin rfl rfl rfl rfl (int_lt_d _ _ _ _ _) ?_
    first | refine WL.move rfl rfl rfl ?_
    first | refine WL.field rfl rfl rfl (rfld0 _ _) ?_ | refine WL.skip _ rfl rfl rfl ?_
    first | refine WL.load rfl rfl rfl (ldI b1 rfl) ?_ | refine WL.skip _ rfl rfl rfl ?_
    first | refine WL.bin rfl rfl rfl rfl (int_gt_t ‹_› _ _ _) ?_ | refine WL.bin rfl rfl rfl rfl (int_gt_f ‹_› _ _ _) ?_ | refine WL.bin rfl rfl rfl rfl (int_gt_d _ _ _ _ _) ?_ | refine WL.skip _ rfl rfl rfl ?_
    first | refine WL.pick rfl rfl rfl rfl ?_
    first | refine WL.move rfl rfl rfl ?_
    first | refine WL.field rfl rfl rfl (rfld1 _ _) ?_ | refine WL.skip _ rfl rfl rfl ?_
    first | refine WL.load rfl rfl rfl (ldS b1 rfl) ?_ | refine WL.skip _ rfl rfl rfl ?_
    first | refine WL.len rfl rfl rfl (hr.hk.len _ _) ?_ | refine WL.len rfl rfl rfl (hr.hv.len _ _) ?_ | refine WL.skip _ rfl rfl rfl ?_
    first | refine WL.bin rfl rfl rfl rfl (int_lt_t ‹_› _ _ _) ?_ | refine WL.bin rfl rfl rfl rfl (int_lt_f ‹_› _ _ _) ?_ | refine WL.bin rfl rfl rfl rfl (int_lt_d _ _ _ _ _) ?_ | refine WL.skip _ rfl rfl rfl ?_
    first | refine WL.pick rfl rfl rfl rfl ?_
    first | refine WL.move rfl rfl rfl ?_
    first | refine WL.field rfl rfl rfl (rfld1 _ _) ?_ | refine WL.skip _ rfl rfl rfl ?_
    first | refine WL.load rfl rfl rfl (ldS b1 rfl) ?_ | refine WL.skip _ rfl rfl rfl ?_
    first | refine WL.len rfl rfl rfl (hr.hk.len _ _) ?_ | refine WL.len rfl rfl rfl (hr.hv.len _ _) ?_ | refine WL.skip _ rfl rfl rfl ?_
    first | refine WL.bin rfl rfl rfl rfl (int_gt_t ‹_› _ _ _) ?_ | refine WL.bin rfl rfl rfl rfl (int_gt_f ‹_› _ _ _) ?_ | refine WL.bin rfl rfl rfl rfl (int_gt_d _ _ _ _ _) ?_ | refine WL.skip _ rfl rfl rfl ?_
    first | refine WL.pick rfl rfl rfl rfl ?_
    first | refine WL.move rfl rfl rfl ?_
    first | refine WL.field rfl rfl rfl (rfld2 _ _) ?_ | refine WL.skip _ rfl rfl rfl ?_
    first | refine WL.load rfl rfl rfl (ldS b1 rfl) ?_ | refine WL.skip _ rfl rfl rfl ?_
    first | refine WL.len rfl rfl rfl (hr.hk.len _ _) ?_ | refine WL.len rfl rfl rfl (hr.hv.len _ _) ?_ | refine WL.skip _ rfl rfl rfl ?_
    first | refine WL.bin rfl rfl rfl rfl (int_gt_t ‹_› _ _ _) ?_ | refine WL.bin rfl rfl rfl rfl (int_gt_f ‹_› _ _ _) ?_ | refine WL.bin rfl rfl rfl rfl (int_gt_d _ _ _ _ _) ?_ | refine WL.skip _ rfl rfl rfl ?_
    first | refine WL.pick rfl rfl rfl rfl ?_
    refine WL.done ?_
    refine EW.on ?_
    refine EW.cond_f rfl ?_
    refine EW.skip ?_
    refine EW.on ?_
    refine EW.seq ?_
    refine EW.region ?_
    first | refine WL.assign rfl rfl rfl ?_
    refine WL.done ?_
    refine EW.on ?_
    refine EW.ret ?_
    exact EW.returns Try.results37 rfl ⟨by rw [he], e1⟩
end Go.Proofs.Yteghbkeaojbdgaa
