import Derived.Test.YtacancfmgnmpiaaXo
set_option linter.unusedVariables false
set_option linter.unusedSimpArgs false
namespace Go.Proofs.Ytacancfmgnmpiaa
open Go.RowKit

/-- Where the ladder's variables lie. -/
structure Ad where
  n : Nat
  g5 : Nat
  g6 : Nat
  p7 : Nat
  p8 : Nat
  p9 : Nat
  p10 : Nat
structure Ad.Ok (A : Ad) : Prop where
  h5 : A.n + 2 < A.g5
  h6 : A.g5 < A.g6
  h7 : A.g6 < A.p7
  h8 : A.g6 < A.p8
  h9 : A.g6 < A.p9
  h10 : A.g6 < A.p10
  n78 : A.p7 ≠ A.p8
  n79 : A.p7 ≠ A.p9
  n70 : A.p7 ≠ A.p10
  n89 : A.p8 ≠ A.p9
  n80 : A.p8 ≠ A.p10
  n90 : A.p9 ≠ A.p10
structure Rst4 (A : Ad) (w : World) (k : List UInt8) (x1 : List Nat) (q : Q4) (W : World) : Prop where
  re : Blk W (A.n + 1 + 1) (z32.map byt) 24
  ke : Blk W A.g5 (k.map byt) 24
  xx : Blk W A.g6 (x1.map dg) 75
  b7 : Blk W A.p7 (q.x2.map dg) 75
  b8 : Blk W A.p8 (q.z2.map dg) 75
  b9 : Blk W A.p9 (q.x3.map dg) 75
  b10 : Blk W A.p10 (q.z3.map dg) 75
  ad : A.Ok
  be : Below A.n w W
section
variable {A : Ad} {w W : World} {k : List UInt8} {x1 : List Nat} {q : Q4}
theorem Rst4.on (h : Rst4 A w k x1 q W) {W' : World} (hb : Below W.heap.size W W') : Rst4 A w k x1 q W' :=
  ⟨h.re.on hb, h.ke.on hb, h.xx.on hb, h.b7.on hb, h.b8.on hb, h.b9.on hb, h.b10.on hb, h.ad, h.be.trans (hb.mono (by have := h.re.lt; omega))⟩
theorem rst4_stable (A : Ad) (w : World) (k : List UInt8) (x1 : List Nat) (q : Q4) : Stable (Rst4 A w k x1 q) := fun W W' h hb => h.on hb
theorem Rst4.put7 (h : Rst4 A w k x1 q W) (t : List Nat) : Rst4 A w k x1 ⟨t, q.z2, q.x3, q.z3⟩ (W.setRow A.p7 (t.map dg).toArray) := by
  obtain ⟨h5, h6, h7, h8, h9, h10, a, b, c, d, e, f⟩ := h.ad
  exact ⟨h.re.setRowOther _ _ (by omega), h.ke.setRowOther _ _ (by omega), h.xx.setRowOther _ _ (by omega), h.b7.setRow _, h.b8.setRowOther _ _ (by omega), h.b9.setRowOther _ _ (by omega), h.b10.setRowOther _ _ (by omega), h.ad, below_setRow h.be _ _ (by omega)⟩
theorem Rst4.put8 (h : Rst4 A w k x1 q W) (t : List Nat) : Rst4 A w k x1 ⟨q.x2, t, q.x3, q.z3⟩ (W.setRow A.p8 (t.map dg).toArray) := by
  obtain ⟨h5, h6, h7, h8, h9, h10, a, b, c, d, e, f⟩ := h.ad
  exact ⟨h.re.setRowOther _ _ (by omega), h.ke.setRowOther _ _ (by omega), h.xx.setRowOther _ _ (by omega), h.b7.setRowOther _ _ (by omega), h.b8.setRow _, h.b9.setRowOther _ _ (by omega), h.b10.setRowOther _ _ (by omega), h.ad, below_setRow h.be _ _ (by omega)⟩
theorem Rst4.put9 (h : Rst4 A w k x1 q W) (t : List Nat) : Rst4 A w k x1 ⟨q.x2, q.z2, t, q.z3⟩ (W.setRow A.p9 (t.map dg).toArray) := by
  obtain ⟨h5, h6, h7, h8, h9, h10, a, b, c, d, e, f⟩ := h.ad
  exact ⟨h.re.setRowOther _ _ (by omega), h.ke.setRowOther _ _ (by omega), h.xx.setRowOther _ _ (by omega), h.b7.setRowOther _ _ (by omega), h.b8.setRowOther _ _ (by omega), h.b9.setRow _, h.b10.setRowOther _ _ (by omega), h.ad, below_setRow h.be _ _ (by omega)⟩
theorem Rst4.put10 (h : Rst4 A w k x1 q W) (t : List Nat) : Rst4 A w k x1 ⟨q.x2, q.z2, q.x3, t⟩ (W.setRow A.p10 (t.map dg).toArray) := by
  obtain ⟨h5, h6, h7, h8, h9, h10, a, b, c, d, e, f⟩ := h.ad
  exact ⟨h.re.setRowOther _ _ (by omega), h.ke.setRowOther _ _ (by omega), h.xx.setRowOther _ _ (by omega), h.b7.setRowOther _ _ (by omega), h.b8.setRowOther _ _ (by omega), h.b9.setRowOther _ _ (by omega), h.b10.setRow _, h.ad, below_setRow h.be _ _ (by omega)⟩
end
theorem put_at (a : Act) (d : Nat) (v : Value) (h : d < a.tmps.size) : (a.put (some d) v).eval (.tmp d) = v := by
  simp [Act.eval, Act.put, h, Array.getElem?_setIfInBounds]
theorem put_ne (a : Act) (d e : Nat) (v : Value) (h : d ≠ e) : (a.put (some d) v).eval (.tmp e) = a.eval (.tmp e) :=
  Act.eval_put (fun d' hd' hyd => h (by
    have e1 : d = d' := Option.some.inj hd'
    have e2 : e = d' := by injection hyd
    omega))
/-- What comes behind 5 comes behind 1. -/
def behind1 (l : List Oper) : Bool := (List.range 8).all fun j => decide (j < 5) || match l[j]? with | some o => o.after.any (fun e => Region.binds .any e && e.on == 1) | none => true
theorem dgs_size {t : List Nat} (h : Dg t) : (Try.prog.info? 75).map (·.size) = some (t.map dg).length := nm_info h.len

set_option maxHeartbeats 1000000 in
/-- The four numbers are changed crosswise. -/
theorem reg_swap {id : Nat} {l : List Oper} {a : Act} {W : World} {Q : Exit → Act → World → Prop} (hm : Try.prog.follows .mixedOrders = true) (e : Nat) (he : 12 ≤ e) (hsz : e + 3 < a.tmps.size) (hl : l.length = 8)
    {A : Ad} {w : World} {k : List UInt8} {x1 : List Nat} {q : Q4} (hq : q.Ok) (h : Rst4 A w k x1 q W)
    {o0 o1 o2 o3 o4 o5 o6 o7 : Oper} (i0 : l[0]? = some o0) (i1 : l[1]? = some o1) (i2 : l[2]? = some o2) (i3 : l[3]? = some o3) (i4 : l[4]? = some o4) (i5 : l[5]? = some o5) (i6 : l[6]? = some o6) (i7 : l[7]? = some o7)
    (g0 : o0.guard = none ∧ o0.op = .load 75 (.tmp 9) ∧ o0.dst = some e) (g1 : o1.guard = none ∧ o1.op = .load 75 (.tmp 10) ∧ o1.dst = some (e + 1))
    (g2 : o2.guard = none ∧ o2.op = .load 75 (.tmp 7) ∧ o2.dst = some (e + 2)) (g3 : o3.guard = none ∧ o3.op = .load 75 (.tmp 8) ∧ o3.dst = some (e + 3))
    (g4 : o4.guard = none ∧ o4.op = .store 75 (.tmp 7) (.tmp e) ∧ o4.dst = none) (g5 : o5.guard = none ∧ o5.op = .store 75 (.tmp 8) (.tmp (e + 1)) ∧ o5.dst = none)
    (g6 : o6.guard = none ∧ o6.op = .store 75 (.tmp 9) (.tmp (e + 2)) ∧ o6.dst = none) (g7 : o7.guard = none ∧ o7.op = .store 75 (.tmp 10) (.tmp (e + 3)) ∧ o7.dst = none)
    (hns : Region.noSelect l.toArray = true) (hfr : Region.free .any l.toArray (none_ 8) 1 = true) (hr : (Region.ready .any l.toArray (none_ 8)).contains 1 = true) (hbh : behind1 l = true)
    (hnew : newsOk .any l.toArray #[true, true, true, true, false, false, false, false] 3 [0, 2, 3] ((none_ 8).setIfInBounds 1 true) = true)
    (hch : chainOk .any l.toArray 4 4 #[true, true, true, true, false, false, false, false] = true)
    (t7 : a.eval (.tmp 7) = .pointer (some ⟨A.p7, 0, none⟩)) (t8 : a.eval (.tmp 8) = .pointer (some ⟨A.p8, 0, none⟩)) (t9 : a.eval (.tmp 9) = .pointer (some ⟨A.p9, 0, none⟩)) (t10 : a.eval (.tmp 10) = .pointer (some ⟨A.p10, 0, none⟩))
    (hQ : ∀ W', Rst4 A w k x1 q.swap W' → Q .normal ((((a.put (some (e + 1)) (num q.z3)).put (some e) (num q.x3)).put (some (e + 2)) (num q.x2)).put (some (e + 3)) (num q.z2)) W') :
    (Code.region id l.toArray true).wp Try.prog Q a W := by
  refine wp_region_any hm ?_
  refine wpAny_of_C (S := fun j W => j < 5 → Blk W A.p10 (q.z3.map dg) 75) _ _ _ (Rst4 A w k x1 q) (rst4_stable _ _ _ _ _) ?_ _ (h.on (below_drawn W))
  have hsz8 : l.toArray.size = 7 + 1 := by simp [hl]
  have hnone : Array.replicate l.toArray.size false = none_ 8 := by rw [hsz8]; rfl
  rw [hsz8] at *
  refine wpAnyC_first (S0 := fun W => Blk W A.p10 (q.z3.map dg) 75) (i := 1) (oi := o1) (v := num q.z3) (by simpa using i1) (Region.noSelect_spec hns) ?_ 7 _ a _ (Region.free_spec (by simpa using i1) hfr) (show 1 ∈ Region.ready .any l.toArray (none_ 8) by simpa using hr)
    (uni_row g1.1 75 (.tmp 10) g1.2.1 A.p10 (q.z3.map dg) 75 t10 (fun W hW => hW) Try.underlying75 rfl (dgs_size hq.z3)) (fun W hW => hW.b10) ?_
  · intro j oj hj hne hno W hW
    by_cases hj5 : j < 5
    · exact hW hj5
    · exfalso
      have hj' : l[j]? = some oj := by simpa using hj
      have hj8 : j < 8 := by
        have := (List.getElem?_eq_some_iff.1 hj').1
        omega
      unfold behind1 at hbh
      rw [List.all_eq_true] at hbh
      have h1 := hbh j (by simpa using hj8)
      simp only [hj', hj5, decide_false, Bool.false_or] at h1
      obtain ⟨ed, hed, hb⟩ := Array.any_eq_true'.1 h1
      simp only [Bool.and_eq_true, beq_iff_eq] at hb
      exact hno ed hed hb.1 hb.2
  · rw [g1.2.2]
    refine wpAnyC_vals (fun i => e + i) (fun i => if i = 0 then num q.x3 else if i = 2 then num q.x2 else num q.z2) #[true, true, true, true, false, false, false, false] 4 12 _ 3 [0, 2, 3] _ _ hnew (by decide) (fun i _ => by omega) ?_ (fun i _ j _ hij => by omega) ?_
    · have ev : ∀ d : Nat, d < 12 → (a.put (some (e + 1)) (num q.z3)).eval (.tmp d) = a.eval (.tmp d) := fun d hd => put_ne _ _ _ _ (by omega)
      intro i hi
      simp only [List.mem_cons, List.not_mem_nil, or_false] at hi
      rcases hi with rfl | rfl | rfl
      · refine ⟨o0, by simpa using i0, g0.2.2, fun a' ha' => ?_⟩
        exact uni_row g0.1 75 (.tmp 9) g0.2.1 A.p9 (q.x3.map dg) 75 (((ha' 9 (by omega)).trans (ev 9 (by omega))).trans t9) (fun W hW => hW.b9) Try.underlying75 rfl (dgs_size hq.x3)
      · refine ⟨o2, by simpa using i2, g2.2.2, fun a' ha' => ?_⟩
        exact uni_row g2.1 75 (.tmp 7) g2.2.1 A.p7 (q.x2.map dg) 75 (((ha' 7 (by omega)).trans (ev 7 (by omega))).trans t7) (fun W hW => hW.b7) Try.underlying75 rfl (dgs_size hq.x2)
      · refine ⟨o3, by simpa using i3, g3.2.2, fun a' ha' => ?_⟩
        exact uni_row g3.1 75 (.tmp 8) g3.2.1 A.p8 (q.z2.map dg) 75 (((ha' 8 (by omega)).trans (ev 8 (by omega))).trans t8) (fun W hW => hW.b8) Try.underlying75 rfl (dgs_size hq.z2)
    · show wpAnyC Try.prog .any l.toArray Q _ 4 _ ((((a.put (some (e + 1)) (num q.z3)).put (some e) (num q.x3)).put (some (e + 2)) (num q.x2)).put (some (e + 3)) (num q.z2)) _
      have s1 : (a.put (some (e + 1)) (num q.z3)).tmps.size = a.tmps.size := put_size _ _ _
      have s2 : ((a.put (some (e + 1)) (num q.z3)).put (some e) (num q.x3)).tmps.size = a.tmps.size := (put_size _ _ _).trans s1
      have s3 : (((a.put (some (e + 1)) (num q.z3)).put (some e) (num q.x3)).put (some (e + 2)) (num q.x2)).tmps.size = a.tmps.size := (put_size _ _ _).trans s2
      have ev : ∀ d : Nat, d < 12 → ((((a.put (some (e + 1)) (num q.z3)).put (some e) (num q.x3)).put (some (e + 2)) (num q.x2)).put (some (e + 3)) (num q.z2)).eval (.tmp d) = a.eval (.tmp d) := fun d hd => by
        rw [put_ne _ _ _ _ (by omega), put_ne _ _ _ _ (by omega), put_ne _ _ _ _ (by omega), put_ne _ _ _ _ (by omega)]
      have v0 : ((((a.put (some (e + 1)) (num q.z3)).put (some e) (num q.x3)).put (some (e + 2)) (num q.x2)).put (some (e + 3)) (num q.z2)).eval (.tmp e) = num q.x3 := by
        rw [put_ne _ _ _ _ (by omega), put_ne _ _ _ _ (by omega), put_at _ _ _ (by omega)]
      have v1 : ((((a.put (some (e + 1)) (num q.z3)).put (some e) (num q.x3)).put (some (e + 2)) (num q.x2)).put (some (e + 3)) (num q.z2)).eval (.tmp (e + 1)) = num q.z3 := by
        rw [put_ne _ _ _ _ (by omega), put_ne _ _ _ _ (by omega), put_ne _ _ _ _ (by omega), put_at _ _ _ (by omega)]
      have v2 : ((((a.put (some (e + 1)) (num q.z3)).put (some e) (num q.x3)).put (some (e + 2)) (num q.x2)).put (some (e + 3)) (num q.z2)).eval (.tmp (e + 2)) = num q.x2 := by
        rw [put_ne _ _ _ _ (by omega), put_at _ _ _ (by omega)]
      have v3 : ((((a.put (some (e + 1)) (num q.z3)).put (some e) (num q.x3)).put (some (e + 2)) (num q.x2)).put (some (e + 3)) (num q.z2)).eval (.tmp (e + 3)) = num q.z2 := put_at _ _ _ (by omega)
      generalize (((a.put (some (e + 1)) (num q.z3)).put (some e) (num q.x3)).put (some (e + 2)) (num q.x2)).put (some (e + 3)) (num q.z2) = a4 at hQ ev v0 v1 v2 v3 ⊢
      have w7 := (ev 7 (by omega)).trans t7
      have w8 := (ev 8 (by omega)).trans t8
      have w9 := (ev 9 (by omega)).trans t9
      have w10 := (ev 10 (by omega)).trans t10
      have len : ∀ {t u : List Nat}, Dg t → Dg u → (t.map dg).length = (u.map dg).length := fun ht hu => by rw [List.length_map, List.length_map, ht.len, hu.len]
      simp only [chainOk, Bool.and_eq_true, beq_iff_eq] at hch
      obtain ⟨r4, r5, r6, r7, r8⟩ := hch
      refine ⟨fun h0 => (by rw [h0] at r4; cases r4), fun i hi => ?_⟩
      obtain rfl : i = 4 := by rw [r4] at hi; simpa using hi
      refine opC_row (by simpa using i4) g4.1 g4.2.2 75 _ _ g4.2.1 A.p7 (q.x3.map dg) (q.x2.map dg) 75 w7 v0 (fun W hW => hW.b7) (dgs_size hq.x3) (len hq.x2 hq.x3) (dgs_one _) (rst4_stable A w k x1 ⟨q.x3, q.z2, q.x3, q.z3⟩) (fun W hW _ => hW.b10) (fun W hW => hW.put7 q.x3) ?_
      refine ⟨fun h0 => (by rw [h0] at r5; cases r5), fun i hi => ?_⟩
      obtain rfl : i = 4 + 1 := by rw [r5] at hi; simpa using hi
      refine opC_row (by simpa using i5) g5.1 g5.2.2 75 _ _ g5.2.1 A.p8 (q.z3.map dg) (q.z2.map dg) 75 w8 v1 (fun W hW => hW.b8) (dgs_size hq.z3) (len hq.z2 hq.z3) (dgs_one _) (rst4_stable A w k x1 ⟨q.x3, q.z3, q.x3, q.z3⟩) (fun W hW h5 => by omega) (fun W hW => hW.put8 q.z3) ?_
      refine ⟨fun h0 => (by rw [h0] at r6; cases r6), fun i hi => ?_⟩
      obtain rfl : i = 4 + 1 + 1 := by rw [r6] at hi; simpa using hi
      refine opC_row (by simpa using i6) g6.1 g6.2.2 75 _ _ g6.2.1 A.p9 (q.x2.map dg) (q.x3.map dg) 75 w9 v2 (fun W hW => hW.b9) (dgs_size hq.x2) (len hq.x3 hq.x2) (dgs_one _) (rst4_stable A w k x1 ⟨q.x3, q.z3, q.x2, q.z3⟩) (fun W hW h5 => by omega) (fun W hW => hW.put9 q.x2) ?_
      refine ⟨fun h0 => (by rw [h0] at r7; cases r7), fun i hi => ?_⟩
      obtain rfl : i = 4 + 1 + 1 + 1 := by rw [r7] at hi; simpa using hi
      refine opC_row (by simpa using i7) g7.1 g7.2.2 75 _ _ g7.2.1 A.p10 (q.z2.map dg) (q.z3.map dg) 75 w10 v3 (fun W hW => hW.b10) (dgs_size hq.z2) (len hq.z3 hq.z2) (dgs_one _) (rst4_stable A w k x1 ⟨q.x3, q.z3, q.x2, q.z2⟩) (fun W hW h5 => by omega) (fun W hW => hW.put10 q.z2) ?_
      exact ⟨r8, fun W hW => hQ W hW⟩
end Go.Proofs.Ytacancfmgnmpiaa

set_option linter.unusedVariables false
set_option linter.unusedSimpArgs false
namespace Go.Proofs.Ytacancfmgnmpiaa
open Go.RowKit

/-- One round's numbers and calls. -/
structure Rnd (x1 cc : List Nat) (q r : Q4) (a b c d da cb s t tt aa bb f cf ac : List Nat) : Prop where
  l_a : a.length = 10
  c_a : ∀ w, Calls Try.prog 39 #[num q.x2, num q.z2] w fun e w' => e = .returned (num a) ∧ Below w.heap.size w w'
  l_b : b.length = 10
  c_b : ∀ w, Calls Try.prog 40 #[num q.x2, num q.z2] w fun e w' => e = .returned (num b) ∧ Below w.heap.size w w'
  l_c : c.length = 10
  c_c : ∀ w, Calls Try.prog 39 #[num q.x3, num q.z3] w fun e w' => e = .returned (num c) ∧ Below w.heap.size w w'
  l_d : d.length = 10
  c_d : ∀ w, Calls Try.prog 40 #[num q.x3, num q.z3] w fun e w' => e = .returned (num d) ∧ Below w.heap.size w w'
  l_da : da.length = 10
  c_da : ∀ w, Calls Try.prog 41 #[num d, num a] w fun e w' => e = .returned (num da) ∧ Below w.heap.size w w'
  l_cb : cb.length = 10
  c_cb : ∀ w, Calls Try.prog 41 #[num c, num b] w fun e w' => e = .returned (num cb) ∧ Below w.heap.size w w'
  l_s : s.length = 10
  c_s : ∀ w, Calls Try.prog 39 #[num da, num cb] w fun e w' => e = .returned (num s) ∧ Below w.heap.size w w'
  l_t : t.length = 10
  c_t : ∀ w, Calls Try.prog 40 #[num da, num cb] w fun e w' => e = .returned (num t) ∧ Below w.heap.size w w'
  l_tt : tt.length = 10
  c_tt : ∀ w, Calls Try.prog 41 #[num t, num t] w fun e w' => e = .returned (num tt) ∧ Below w.heap.size w w'
  l_aa : aa.length = 10
  c_aa : ∀ w, Calls Try.prog 41 #[num a, num a] w fun e w' => e = .returned (num aa) ∧ Below w.heap.size w w'
  l_bb : bb.length = 10
  c_bb : ∀ w, Calls Try.prog 41 #[num b, num b] w fun e w' => e = .returned (num bb) ∧ Below w.heap.size w w'
  l_f : f.length = 10
  c_f : ∀ w, Calls Try.prog 40 #[num aa, num bb] w fun e w' => e = .returned (num f) ∧ Below w.heap.size w w'
  l_cf : cf.length = 10
  c_cf : ∀ w, Calls Try.prog 41 #[num cc, num f] w fun e w' => e = .returned (num cf) ∧ Below w.heap.size w w'
  l_ac : ac.length = 10
  c_ac : ∀ w, Calls Try.prog 39 #[num aa, num cf] w fun e w' => e = .returned (num ac) ∧ Below w.heap.size w w'
  l_r_x3 : r.x3.length = 10
  c_r_x3 : ∀ w, Calls Try.prog 41 #[num s, num s] w fun e w' => e = .returned (num r.x3) ∧ Below w.heap.size w w'
  l_r_z3 : r.z3.length = 10
  c_r_z3 : ∀ w, Calls Try.prog 41 #[num x1, num tt] w fun e w' => e = .returned (num r.z3) ∧ Below w.heap.size w w'
  l_r_x2 : r.x2.length = 10
  c_r_x2 : ∀ w, Calls Try.prog 41 #[num aa, num bb] w fun e w' => e = .returned (num r.x2) ∧ Below w.heap.size w w'
  l_r_z2 : r.z2.length = 10
  c_r_z2 : ∀ w, Calls Try.prog 41 #[num f, num ac] w fun e w' => e = .returned (num r.z2) ∧ Below w.heap.size w w'
theorem rnd_ok {one zer cc : List Nat} {af sf mf : List Nat → List Nat → List Nat} (O : Opn one zer cc af sf mf) {x1 : List Nat} (h1 : Dg x1) {q : Q4} (hq : q.Ok) :
    ∃ a b c d da cb s t tt aa bb f cf ac, Rnd x1 cc q (stp cc af sf mf x1 q) a b c d da cb s t tt aa bb f cf ac := by
  have D_a := O.ad _ _ hq.x2 hq.z2
  have D_b := O.sd _ _ hq.x2 hq.z2
  have D_c := O.ad _ _ hq.x3 hq.z3
  have D_d := O.sd _ _ hq.x3 hq.z3
  have D_da := O.md _ _ D_d D_a
  have D_cb := O.md _ _ D_c D_b
  have D_s := O.ad _ _ D_da D_cb
  have D_t := O.sd _ _ D_da D_cb
  have D_tt := O.md _ _ D_t D_t
  have D_aa := O.md _ _ D_a D_a
  have D_bb := O.md _ _ D_b D_b
  have D_f := O.sd _ _ D_aa D_bb
  have D_cf := O.md _ _ O.dc D_f
  have D_ac := O.ad _ _ D_aa D_cf
  have D_r_x3 := O.md _ _ D_s D_s
  have D_r_z3 := O.md _ _ h1 D_tt
  have D_r_x2 := O.md _ _ D_aa D_bb
  have D_r_z2 := O.md _ _ D_f D_ac
  exact ⟨_, _, _, _, _, _, _, _, _, _, _, _, _, _,
    ⟨D_a.len, O.ac _ _ hq.x2 hq.z2, D_b.len, O.sc _ _ hq.x2 hq.z2, D_c.len, O.ac _ _ hq.x3 hq.z3, D_d.len, O.sc _ _ hq.x3 hq.z3, D_da.len, O.mc _ _ D_d D_a, D_cb.len, O.mc _ _ D_c D_b, D_s.len, O.ac _ _ D_da D_cb, D_t.len, O.sc _ _ D_da D_cb, D_tt.len, O.mc _ _ D_t D_t, D_aa.len, O.mc _ _ D_a D_a, D_bb.len, O.mc _ _ D_b D_b, D_f.len, O.sc _ _ D_aa D_bb, D_cf.len, O.mc _ _ O.dc D_f, D_ac.len, O.ac _ _ D_aa D_cf, D_r_x3.len, O.mc _ _ D_s D_s, D_r_z3.len, O.mc _ _ h1 D_tt, D_r_x2.len, O.mc _ _ D_aa D_bb, D_r_z2.len, O.mc _ _ D_f D_ac⟩⟩
end Go.Proofs.Ytacancfmgnmpiaa
