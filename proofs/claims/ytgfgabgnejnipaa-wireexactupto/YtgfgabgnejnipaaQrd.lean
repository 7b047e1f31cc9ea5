import Derived.Test.YtgfgabgnejnipaaVrx
namespace Go.Proofs.Ytgfgabgnejnipaa
open Go.RowKit

/-- The document's reader: its struct lies in block p. -/
def Qd (w : World) (p : Nat) (v : Value) (all : List UInt8) (at_ : Nat) (f : Int) : Prop :=
  w.heap[p]? = some (.cells #[v, .int .i64 at_, .int .i64 f] 103) ∧ Has w v all ∧ at_ ≤ all.length

theorem Has.frmT {w w' : World} {v : Value} {bs : List UInt8} {q : Nat} {c : Array Value} {ty : TypeId} (h : Has w v bs) (hq : w.heap[q]? = some (.cells c ty)) (hc : ∀ (i : Nat) u, c[i]? = some u → ∀ b, u ≠ byt b) (hf : Frm q w w') : Has w' v bs := by
  rcases h with h | ⟨ad, cap, h1, h2, h3⟩
  · exact .inl h
  · refine .inr ⟨ad, cap, h1, h2, fun i u hu => ?_⟩
    have hcell := h3 i u hu
    have hne : (ad.add i).block ≠ q := by
      intro e
      unfold World.cell? at hcell
      rw [e, hq] at hcell
      dsimp only at hcell
      split at hcell
      · cases hcell
      · exact hc _ _ hcell u rfl
    have hlt := cell_lt hcell
    rw [← hcell]
    unfold World.cell?
    rw [hf.block _ hlt hne]

theorem Qd.shape {w : World} {p : Nat} {v : Value} {all : List UInt8} {a : Nat} {f : Int} (h : Qd w p v all a f) : ∃ ao n c, v = .slice ao n c := by
  obtain ⟨ao, c, e⟩ := h.2.1.slice
  exact ⟨ao, _, c, e⟩

theorem Qd.cells {w : World} {p : Nat} {v : Value} {all : List UInt8} {a : Nat} {f : Int} (h : Qd w p v all a f) :
    w.cell? ⟨p, 0, none⟩ = some v ∧ w.cell? ⟨p, 1, none⟩ = some (.int .i64 a) ∧ w.cell? ⟨p, 2, none⟩ = some (.int .i64 f) ∧ ∀ o, w.frozen? ⟨p, o, none⟩ = false := by
  refine ⟨?_, ?_, ?_, fun o => ?_⟩ <;> simp [World.cell?, World.frozen?, h.1]

theorem Qd.lt {w : World} {p : Nat} {v : Value} {all : List UInt8} {a : Nat} {f : Int} (h : Qd w p v all a f) : p < w.heap.size := block_lt h.1
theorem Qd.below {w w' : World} {p : Nat} {v : Value} {all : List UInt8} {a : Nat} {f : Int} (h : Qd w p v all a f) (hb : Below w.heap.size w w') : Qd w' p v all a f :=
  ⟨(hb.block p h.lt).trans h.1, h.2.1.below hb, h.2.2⟩
theorem Qd.keeps {w w' : World} {p : Nat} {v : Value} {all : List UInt8} {a : Nat} {f : Int} (h : Qd w p v all a f) (hf : Frm p w w') {u : Value} {bs : List UInt8} (hu : Has w u bs) : Has w' u bs :=
  Has.frmT hu h.1 (rd_cells v h.shape a f) hf
theorem Qd.fault {w : World} {p : Nat} {v : Value} {all : List UInt8} {a : Nat} {f : Int} (h : Qd w p v all a f) (k : Int) : Qd (w.setCell ⟨p, 2, none⟩ (.int .i64 k)) p v all a k :=
  ⟨by rw [setCell_block w p 2 _ h.1]; rfl, h.keeps (Frm.setCell w p 2 _) h.2.1, h.2.2⟩
theorem Qd.move {w : World} {p : Nat} {v : Value} {all : List UInt8} {a : Nat} {f : Int} (h : Qd w p v all a f) (b : Nat) (hb : b ≤ all.length) : Qd (w.setCell ⟨p, 1, none⟩ (.int .i64 b)) p v all b f :=
  ⟨by rw [setCell_block w p 1 _ h.1]; rfl, h.keeps (Frm.setCell w p 1 _) h.2.1, hb⟩

/-- 'append(s, x...)' in a region that draws its order, x any bytes. -/
theorem step_appH {ops : Array Oper} {o : Oper} {a : Act} {w : World} {K : Act → World → Prop} {Q : Exit → Act → World → Prop} {E : Prop} (hgd : o.guard = none) (s x : Operand)
    (ho : o.op = .call { callee := .builtin .append, args := #[s, x], argTypes := #[22, 22] }) (base : Nat) (v : Value) (bs : List UInt8) (hs : a.eval s = v) (hown : Own w base v bs)
    (sv : Value) (ys : List UInt8) (hx : a.eval x = sv) (hh : Has w sv ys) (hb : bs.length + ys.length ≤ 150000000000000) (hbase : base ≤ w.heap.size)
    (h : ∀ v' w', Own w' base v' (bs ++ ys) → w.grownBy w' v.ownBlock → K (a.put o.dst v') w') : if Region.wanted o (yielded ops a.tmps) = true then Oper.wp Try.prog o a w K Q else E := by
  have hw : Region.wanted o (yielded ops a.tmps) = true := by simp [Region.wanted, hgd]
  rw [if_pos hw]
  rcases hh with ⟨rfl, rfl⟩ | ⟨ad, cap, rfl, h2, h3⟩
  · obtain ⟨i0, hi, _⟩ := info_parts Try.info5
    have hrun := run_append_owned_none (P := Try.prog) (w := w) base 22 o.type 5 i0 1 Try.underlying22 hi v _ _ hown
    unfold Oper.wp
    simp [execOp, ho, resolve, invoke, builtin, hs, hx, hrun, Result.andThen]
    exact h v w (by simpa using hown) (grown_refl _ _)
  · obtain ⟨v', w', hrun, r1, r2⟩ := run_app w base v bs hown ad cap ys h3 hb hbase o.type
    unfold Oper.wp
    simp [execOp, ho, resolve, invoke, builtin, hs, hx, hrun, Result.andThen]
    exact h v' w' r1 r2

set_option maxRecDepth 100000 in
set_option maxHeartbeats 400000 in
theorem qnew_any (v : Value) (bs : List UInt8) (w : World) (h : Has w v bs) (hn : bs.length ≤ 150000000000000) :
    Calls Try.prog 54 #[v] w fun e w' => ∃ p rv, e = .returned (.pointer (some ⟨p, 0, none⟩)) ∧ Qd w' p rv bs 0 0 ∧ w.heap.size ≤ p ∧ (∀ k, rv.ownBlock = some k → w.heap.size ≤ k) ∧ Below w.heap.size w w' := by
  have HH := hide h
  clear h
  go_enter Try.func54, Try.ntmps54
  go_wp2_with (at_builtin; refine wpList_app rfl _ _ rfl w.heap.size _ [] rfl (Own.nil _ _) _ bs rfl HH.out (by simp; omega) (Nat.le_refl _) ?_)
  intro v1 w1 hown1 hg1
  have h2 := (Below.refl w.heap.size w).grown hg1 (Nat.le_refl _) (Own.nil w w.heap.size).ownBlock
  have h1 : Own w1 w.heap.size v1 bs := hown1
  obtain ⟨ao, cap, rfl⟩ := h1.slice
  have hnew := below_new w1 (.cells #[.slice ao bs.length cap, .int .i64 0, .int .i64 0] 103)
  have HR : Hid (Qd (w1.alloc (.cells #[.slice ao bs.length cap, .int .i64 0, .int .i64 0] 103)) w1.heap.size (.slice ao bs.length cap) bs 0 0) := ⟨at_new w1 _ _ ⟨rfl, rfl, rfl, rfl⟩, h1.has.below hnew, Nat.zero_le _⟩
  have HB := hide (bel_chain h2 hnew)
  have HS := hide h2.size
  have HO : Hid (∀ k, (Value.slice ao bs.length cap).ownBlock = some k → w.heap.size ≤ k) := h1.ownBlock
  clear h1 h2 hnew hown1 hg1
  go_wp2
  go_ret
  exact ⟨_, _, rfl, HR.out, HS.out, HO.out, HB.out⟩

set_option maxRecDepth 100000 in
set_option maxHeartbeats 400000 in
theorem rnewx_any (v : Value) (bs : List UInt8) (w : World) (h : Has w v bs) (hn : bs.length ≤ 150000000000000) :
    Calls Try.prog 24 #[v] w fun e w' => ∃ p rv, e = .returned (.pointer (some ⟨p, 0, none⟩)) ∧ Rd w' p rv bs 0 0 ∧ w.heap.size ≤ p ∧ (∀ k, rv.ownBlock = some k → w.heap.size ≤ k) ∧ Below w.heap.size w w' := by
  have HH := hide h
  clear h
  go_enter Try.func24, Try.ntmps24
  go_wp2_with fail
  refine (clone_any v bs _ HH.out hn).mono ?_
  rintro e w1 ⟨ao, cap, rfl, h1, h2⟩
  have hnew := below_new w1 (.cells #[.slice ao bs.length cap, .int .i64 0, .int .i64 0] 84)
  have HR : Hid (Rd (w1.alloc (.cells #[.slice ao bs.length cap, .int .i64 0, .int .i64 0] 84)) w1.heap.size (.slice ao bs.length cap) bs 0 0) := ⟨at_new w1 _ _ ⟨rfl, rfl, rfl, rfl⟩, h1.has.below hnew, Nat.zero_le _⟩
  have HB := hide (bel_chain h2 hnew)
  have HS := hide h2.size
  have HO : Hid (∀ k, (Value.slice ao bs.length cap).ownBlock = some k → w.heap.size ≤ k) := h1.ownBlock
  clear h1 h2 hnew
  go_wp2
  go_ret
  exact ⟨_, _, rfl, HR.out, HS.out, HO.out, HB.out⟩

set_option maxRecDepth 100000 in
set_option maxHeartbeats 400000 in
theorem qleft_any (p : Nat) (v : Value) (all : List UInt8) (a : Nat) (f : Int) (w : World) (h : Qd w p v all a f) (hn : all.length ≤ 150000000000000) :
    Calls Try.prog 60 #[.pointer (some ⟨p, 0, none⟩)] w fun e w' => e = .returned (.int .i64 ((all.length : Int) - a)) ∧ ∃ q, w' = w.drewN q := by
  obtain ⟨h0, h1, _, _⟩ := h.cells
  have hle := h.2.2
  obtain ⟨ao, c, rfl⟩ := h.2.1.slice
  clear h
  go_enter Try.func60, Try.ntmps60
  go_wp2
  go_quiet (fail)
  go_wp2
  go_ret
  exact ⟨rfl, _, rfl⟩

set_option maxRecDepth 100000 in
set_option maxHeartbeats 400000 in
theorem qfixed_fault (p : Nat) (v : Value) (all : List UInt8) (a : Nat) (f n : Int) (w : World) (h : Qd w p v all a f) (hf : (f == 0) = false) :
    Calls Try.prog 56 #[.pointer (some ⟨p, 0, none⟩), .int .i64 n] w fun e w' => e = .returned (.slice none 0 0) ∧ w = w' := by
  obtain ⟨_, _, h2, _⟩ := h.cells
  clear h
  go_enter Try.func56, Try.ntmps56
  go_wp2
  go_ret
  exact ⟨rfl, rfl⟩

set_option maxRecDepth 100000 in
set_option maxHeartbeats 400000 in
theorem qfixed_neg (p : Nat) (v : Value) (all : List UInt8) (a : Nat) (n : Int) (w : World) (h : Qd w p v all a 0) (hn : n < 0) :
    Calls Try.prog 56 #[.pointer (some ⟨p, 0, none⟩), .int .i64 n] w fun e w' => e = .returned (.slice none 0 0) ∧ Qd w' p v all a 4 ∧ Frm p w w' := by
  obtain ⟨_, _, h2, h3⟩ := h.cells
  have h3' := h3 2
  have HF := hide (h.fault 4)
  have HM := hide (Frm.setCell w p 2 (.int .i64 4))
  clear h h3
  go_enter Try.func56, Try.ntmps56
  go_wp2
  go_ret
  exact ⟨rfl, HF.out, HM.out⟩

set_option maxRecDepth 100000 in
set_option maxHeartbeats 400000 in
theorem qfixed_short (p : Nat) (v : Value) (all : List UInt8) (a : Nat) (n : Int) (w : World) (h : Qd w p v all a 0) (hn : 0 ≤ n) (hs : (all.length : Int) - a < n) (hl : all.length ≤ 150000000000000) :
    Calls Try.prog 56 #[.pointer (some ⟨p, 0, none⟩), .int .i64 n] w fun e w' => e = .returned (.slice none 0 0) ∧ Qd w' p v all a 10 ∧ Frm p w w' := by
  obtain ⟨_, _, h2, h3⟩ := h.cells
  have h3' := h3 2
  have HR := hide h
  have HF : Hid (∀ q, Qd ((w.drewN q).setCell ⟨p, 2, none⟩ (.int .i64 10)) p v all a 10) := fun q => (h.below (bel_drewN (Below.refl _ _) q)).fault 10
  have HM : Hid (∀ q, Frm p w ((w.drewN q).setCell ⟨p, 2, none⟩ (.int .i64 10))) := fun q => (Frm.of_below (bel_drewN (Below.refl _ _) q)).trans (Frm.setCell _ _ _ _)
  clear h h3
  go_enter Try.func56, Try.ntmps56
  go_wp2_with fail
  refine (qleft_any p v all a 0 _ HR.out hl).mono ?_
  rintro e w1 ⟨rfl, q, rfl⟩
  go_wp2
  go_ret
  exact ⟨rfl, HF.out q, HM.out q⟩

set_option maxRecDepth 100000 in
set_option maxHeartbeats 1000000 in
theorem qfixed_ok (p : Nat) (v : Value) (all : List UInt8) (a n : Nat) (w : World) (h : Qd w p v all a 0) (hs : a + n ≤ all.length) (hl : all.length ≤ 150000000000000) :
    Calls Try.prog 56 #[.pointer (some ⟨p, 0, none⟩), .int .i64 (n : Int)] w fun e w' => ∃ ao cap, e = .returned (.slice ao ((all.drop a).take n).length cap) ∧ Own w' w.heap.size (.slice ao ((all.drop a).take n).length cap) ((all.drop a).take n) ∧ Qd w' p v all (a + n) 0 ∧ Frm p w w' := by
  obtain ⟨h0, h1, h2, h3⟩ := h.cells
  have h3' := h3 1
  have HR := hide h
  have hs' : (n : Int) ≤ (all.length : Int) - a := by omega
  have hcut := h.2.1.cutLH a (a + n) (by omega) hs
  obtain ⟨ao, cp, hcs⟩ := cut_shape h.2.1 a (a + n)
  rw [hcs] at hcut
  rw [Nat.add_sub_cancel_left] at hcut hcs
  obtain ⟨ts, ht⟩ : ∃ ts, (all.drop a).take n = ts := ⟨_, rfl⟩
  have htl : ts.length = n := by rw [← ht]; simp; omega
  have HC : Hid (∀ W, Has W v all → Has W (.slice ao n cp) ts) := fun W hW => by
    have := hW.cut a (a + n) (by omega) hs
    rw [hcs, Nat.add_sub_cancel_left, ht] at this
    exact this
  simp only [Int.natCast_add] at hcut
  have hcut2 : ∀ W, (Instr.slice 22 v (some (.int .i64 (a : Int))) (some (.int .i64 (IntKind.i64.wrap ((a : Int) + n)))) none).run Try.prog W = .ok (.slice ao n cp) W := by
    rw [show IntKind.i64.wrap ((a : Int) + n) = (a : Int) + n by rw [IntKind.wrap_i64]; omega]
    exact hcut
  rw [ht]
  have HTL := hide htl
  have h3q : ∀ q, (w.drewN q).frozen? ⟨p, 1, none⟩ = false := fun q => h3'
  clear h h3 hcs ht htl hcut
  go_enter Try.func56, Try.ntmps56
  go_wp2_with fail
  refine (qleft_any p v all a 0 _ HR.out hl).mono ?_
  rintro e w1 ⟨rfl, q, rfl⟩
  go_wp2_with fail
  have HRq := hide (HR.out.below (bel_drewN (Below.refl _ _) q))
  have HBq := hide (bel_drewN (Below.refl w.heap.size w) q)
  obtain ⟨g0, g1, _, g3⟩ := HRq.out.cells
  generalize w.drewN q = W at *
  have G0 := hide g0
  have G1 := hide g1
  clear h0 h1 h2 h3' h3q HR g3
  go_region_held3 (fun w' => w'.cell? ⟨p, 0, none⟩ = some v ∧ w'.cell? ⟨p, 1, none⟩ = some (.int .i64 (a : Int))) (first | go_keep | exact ⟨at_below hb2 G0.out, at_below hb2 G1.out⟩) ((refine step_appH ?_ (.const (.slice none 0 0)) (.tmp 37) ?_ W.heap.size (.slice none 0 0) [] ?_ ?_ (.slice ao n cp) ts ?_ ?_ ?_ ?_ ?_; rfl; rfl; rfl; exact Own.nil _ _; rfl; exact HC.out _ (Lik.has ⟨rfl, rfl, rfl, rfl⟩ HRq.out.2.1); (have := HTL.out; simp; omega); exact Nat.le_refl _; intro v2 w2 hown2 hg2; have hb2 : Below W.heap.size W w2 := ((Below.refl W.heap.size W).drew).grown hg2 (Nat.le_refl _) (Own.nil W W.heap.size).ownBlock))
  have hown3 : Own w2 W.heap.size v2 ts := hown2
  obtain ⟨bo, bc, rfl⟩ := hown3.slice
  have HO := hide (hown3.weaken HBq.out.size)
  have HR2 := HRq.out.below hb2
  obtain ⟨k0, k1, _, k3⟩ := HR2.cells
  have k3' := k3 1
  have hle : a + n ≤ all.length := hs
  have HR3 : Hid (Qd (w2.setCell ⟨p, 1, none⟩ (.int .i64 ((a : Int) + n))) p v all (a + n) 0) := by
    have h7 := HR2.move (a + n) hle
    rw [Int.natCast_add] at h7
    exact h7
  have HF3 : Hid (Frm p w (w2.setCell ⟨p, 1, none⟩ (.int .i64 ((a : Int) + n)))) := ((Frm.of_below HBq.out).trans (Frm.of_below hb2)).trans (Frm.setCell _ _ _ _)
  have HO3 : Hid (Own (w2.setCell ⟨p, 1, none⟩ (.int .i64 ((a : Int) + n))) w.heap.size (.slice bo ts.length bc) ts) := by
    refine Own.fx (S := fun k => k = p) HO.out (Fx.setCell (S := fun k => k = p) w2 p 1 _ rfl) (fun k hk e => ?_)
    subst e
    have h5 := HRq.out.lt
    have h6 := hown3.ownBlock k hk
    omega
  clear hown2 hown3 hg2 hb2 HR2 k3 G0 G1 HRq HBq hcut2 HC
  go_wp2
  go_ret
  exact ⟨bo, bc, rfl, HO3.out, HR3.out, HF3.out⟩

theorem qfixed_any (p : Nat) (v : Value) (all : List UInt8) (a : Nat) (f n : Int) (w : World) (h : Qd w p v all a f) (hl : all.length ≤ 150000000000000) :
    Calls Try.prog 56 #[.pointer (some ⟨p, 0, none⟩), .int .i64 n] w fun e w' => ∃ ao cap, e = .returned (.slice ao (rfix all a f n).1.length cap) ∧ Own w' w.heap.size (.slice ao (rfix all a f n).1.length cap) (rfix all a f n).1 ∧ Qd w' p v all (rfix all a f n).2.1 (rfix all a f n).2.2 ∧ Frm p w w' := by
  unfold rfix
  by_cases hf : f = 0
  · subst hf
    rw [if_neg (by simp)]
    by_cases hn : n < 0
    · rw [if_pos hn]
      exact (qfixed_neg p v all a n w h hn).mono fun e w' ⟨h1, h2, h3⟩ => ⟨none, 0, h1, Own.nil _ _, h2, h3⟩
    · rw [if_neg hn]
      by_cases hs : (all.length : Int) - a < n
      · rw [if_pos hs]
        exact (qfixed_short p v all a n w h (by omega) hs hl).mono fun e w' ⟨h1, h2, h3⟩ => ⟨none, 0, h1, Own.nil _ _, h2, h3⟩
      · rw [if_neg hs]
        obtain ⟨m, rfl⟩ := Int.eq_ofNat_of_zero_le (show 0 ≤ n by omega)
        have hle := h.2.2
        exact qfixed_ok p v all a m w h (by omega) hl
  · rw [if_pos hf]
    exact (qfixed_fault p v all a f n w h (beq_eq_false_iff_ne.2 hf)).mono fun e w' ⟨h1, h2⟩ => ⟨none, 0, h1, Own.nil _ _, by subst h2; exact h, by subst h2; exact Frm.refl _ _⟩

set_option maxRecDepth 100000 in
set_option maxHeartbeats 1000000 in
theorem qnum_is (p : Nat) (v : Value) (all : List UInt8) (a : Nat) (f : Int) (s : Nat) (w : World) (h : Qd w p v all a f) (hl : all.length ≤ 150000000000000) (hs : s ≤ 4) (ys : List UInt8) (b : Nat) (g : Int) (hr : rfix all a f s = (ys, b, g)) :
    Calls Try.prog 55 #[.pointer (some ⟨p, 0, none⟩), .int .i64 (s : Int)] w fun e w' => e = .returned (.int .i64 (beval ys : Int)) ∧ Qd w' p v all b g ∧ Frm p w w' := by
  have hlen := rfix_len all a f s
  rw [hr] at hlen
  have hyl : ys.length ≤ 4 := by have : ys.length ≤ s := hlen; omega
  have HQ := hide h
  have HRR := hide hr
  clear h hlen hr
  go_enter Try.func55, Try.ntmps55
  go_wp2_with fail
  refine (qfixed_any p v all a f s _ HQ.out hl).mono ?_
  rw [HRR.out]
  rintro e w1 ⟨ao, cap, rfl, ho, hq, hf⟩
  have HO := hide ho
  have HQ1 := hide hq
  have HF := hide hf
  clear ho hq hf
  go_wp2_with fail
  refine (value_any _ ys _ HO.out.has hyl).mono ?_
  rintro e w2 ⟨rfl, rfl⟩
  go_wp2
  go_ret
  exact ⟨rfl, HQ1.out, HF.out⟩

theorem qnum_any (p : Nat) (v : Value) (all : List UInt8) (a : Nat) (f : Int) (s : Nat) (w : World) (h : Qd w p v all a f) (hl : all.length ≤ 150000000000000) (hs : s ≤ 4) :
    Calls Try.prog 55 #[.pointer (some ⟨p, 0, none⟩), .int .i64 (s : Int)] w fun e w' => e = .returned (.int .i64 (beval (rfix all a f s).1 : Int)) ∧ Qd w' p v all (rfix all a f s).2.1 (rfix all a f s).2.2 ∧ Frm p w w' :=
  qnum_is p v all a f s w h hl hs _ _ _ rfl

set_option maxRecDepth 100000 in
set_option maxHeartbeats 1000000 in
theorem qrun_stop (p : Nat) (v : Value) (all : List UInt8) (a : Nat) (f most : Int) (w : World) (h : Qd w p v all a f) (hl : all.length ≤ 150000000000000) (g : Int) (hr : rfix all a f 2 = ([], a, g)) (hg : (g == 0) = false) :
    Calls Try.prog 57 #[.pointer (some ⟨p, 0, none⟩), .int .i64 most] w fun e w' => e = .returned (.slice none 0 0) ∧ Qd w' p v all a g ∧ Frm p w w' := by
  obtain ⟨_, h1, _, _⟩ := h.cells
  have HQ := hide h
  have HRR := hide hr
  clear h hr
  go_enter Try.func57, Try.ntmps57
  go_wp2_with fail
  refine (qnum_is p v all a f 2 _ HQ.out hl (by omega) [] a g HRR.out).mono ?_
  rintro e w1 ⟨rfl, hq, hf⟩
  obtain ⟨_, _, k2, _⟩ := hq.cells
  have HQ1 := hide hq
  have HF := hide hf
  clear hq hf h1
  go_wp2
  go_ret
  exact ⟨rfl, HQ1.out, HF.out⟩

set_option maxRecDepth 100000 in
set_option maxHeartbeats 1000000 in
theorem qrun_big (p : Nat) (v : Value) (all : List UInt8) (a : Nat) (most : Int) (w : World) (h : Qd w p v all a 0) (hl : all.length ≤ 150000000000000) (ys : List UInt8) (m : Nat) (hm : beval ys = m) (hr : rfix all a 0 2 = (ys, a + 2, 0)) (hb : most < (m : Int)) :
    Calls Try.prog 57 #[.pointer (some ⟨p, 0, none⟩), .int .i64 most] w fun e w' => e = .returned (.slice none 0 0) ∧ Qd w' p v all a 12 ∧ Frm p w w' := by
  obtain ⟨_, h1, _, _⟩ := h.cells
  have hle := h.2.2
  have HQ := hide h
  have HRR := hide hr
  have HM := hide hm
  clear h hr hm
  go_enter Try.func57, Try.ntmps57
  go_wp2_with fail
  refine (qnum_is p v all a 0 2 _ HQ.out hl (by omega) ys (a + 2) 0 HRR.out).mono ?_
  rw [HM.out]
  rintro e w1 ⟨rfl, hq, hf⟩
  obtain ⟨_, _, k2, k3⟩ := hq.cells
  have k3a := k3 2
  have hq2 := hq.fault 12
  have hf2 := hf.trans (Frm.setCell w1 p 2 (.int .i64 12))
  obtain ⟨_, j1, j2, j3⟩ := hq2.cells
  have j3a := j3 1
  have HQ3 := hide (hq2.move a hle)
  have HF3 := hide (hf2.trans (Frm.setCell _ p 1 (.int .i64 (a : Int))))
  clear hq hf h1 k3 j3 hq2 hf2
  go_wp2
  go_ret
  exact ⟨rfl, HQ3.out, HF3.out⟩

set_option maxRecDepth 100000 in
set_option maxHeartbeats 1000000 in
theorem qrun_short (p : Nat) (v : Value) (all : List UInt8) (a : Nat) (most : Int) (w : World) (h : Qd w p v all a 0) (hl : all.length ≤ 150000000000000) (ys : List UInt8) (m : Nat) (hm : beval ys = m) (hr : rfix all a 0 2 = (ys, a + 2, 0)) (hb : (m : Int) ≤ most) (hb2 : (all.length : Int) - ((a + 2 : Nat) : Int) < (m : Int)) :
    Calls Try.prog 57 #[.pointer (some ⟨p, 0, none⟩), .int .i64 most] w fun e w' => e = .returned (.slice none 0 0) ∧ Qd w' p v all a 10 ∧ Frm p w w' := by
  obtain ⟨_, h1, _, _⟩ := h.cells
  have hle := h.2.2
  have HQ := hide h
  have HRR := hide hr
  have HM := hide hm
  clear h hr hm
  go_enter Try.func57, Try.ntmps57
  go_wp2_with fail
  refine (qnum_is p v all a 0 2 _ HQ.out hl (by omega) ys (a + 2) 0 HRR.out).mono ?_
  rw [HM.out]
  rintro e w1 ⟨rfl, hq, hf⟩
  obtain ⟨_, _, k2, _⟩ := hq.cells
  have HQ1 := hide hq
  have HF1 := hide hf
  clear hq hf h1
  obtain ⟨b, hb'⟩ : ∃ b, b = a + 2 := ⟨_, rfl⟩
  rw [← hb'] at HQ1 hb2
  have HBB := hide hb'
  clear hb'
  go_wp2_with fail
  refine (qleft_any p v all b 0 _ HQ1.out hl).mono ?_
  rintro e w2 ⟨rfl, q, rfl⟩
  have hqd := HQ1.out.below (bel_drewN (Below.refl _ _) q)
  have hfq := HF1.out.trans (Frm.of_below (bel_drewN (Below.refl _ _) q))
  generalize w1.drewN q = w2 at *
  obtain ⟨_, _, k2, k3⟩ := hqd.cells
  have k3a := k3 2
  have hq2 := hqd.fault 10
  have hf2 := hfq.trans (Frm.setCell w2 p 2 (.int .i64 10))
  obtain ⟨_, j1, j2, j3⟩ := hq2.cells
  have j3a := j3 1
  have HQ3 := hide (hq2.move a hle)
  have HF3 := hide (hf2.trans (Frm.setCell _ p 1 (.int .i64 (a : Int))))
  clear hqd hfq k3 j3 hq2 hf2 HQ1 HF1
  go_wp2
  go_ret
  exact ⟨rfl, HQ3.out, HF3.out⟩

set_option maxRecDepth 100000 in
set_option maxHeartbeats 1000000 in
theorem qrun_ok (p : Nat) (v : Value) (all : List UInt8) (a : Nat) (most : Int) (w : World) (h : Qd w p v all a 0) (hl : all.length ≤ 150000000000000) (ys : List UInt8) (m : Nat) (hm : beval ys = m) (hr : rfix all a 0 2 = (ys, a + 2, 0)) (hb : (m : Int) ≤ most) (hb2 : a + 2 + m ≤ all.length) :
    Calls Try.prog 57 #[.pointer (some ⟨p, 0, none⟩), .int .i64 most] w fun e w' => ∃ ao cap, e = .returned (.slice ao ((all.drop (a + 2)).take m).length cap) ∧ Own w' w.heap.size (.slice ao ((all.drop (a + 2)).take m).length cap) ((all.drop (a + 2)).take m) ∧ Qd w' p v all (a + 2 + m) 0 ∧ Frm p w w' := by
  obtain ⟨_, h1, _, _⟩ := h.cells
  have HQ := hide h
  have HRR := hide hr
  have HM := hide hm
  clear h hr hm
  obtain ⟨b, hb'⟩ : ∃ b, b = a + 2 := ⟨_, rfl⟩
  rw [← hb'] at hb2 ⊢
  have hbb : (m : Int) ≤ (all.length : Int) - b := by omega
  have HBB := hide hb'
  clear hb'
  obtain ⟨ts, hts⟩ : ∃ ts, (all.drop b).take m = ts := ⟨_, rfl⟩
  have HTS := hide hts
  rw [hts]
  clear hts
  go_enter Try.func57, Try.ntmps57
  go_wp2_with fail
  refine (qnum_is p v all a 0 2 _ HQ.out hl (by omega) ys b 0 (HBB.out ▸ HRR.out)).mono ?_
  rw [HM.out]
  rintro e w1 ⟨rfl, hq, hf⟩
  obtain ⟨_, _, k2, _⟩ := hq.cells
  have HQ1 := hide hq
  have HF1 := hide hf
  clear hq hf h1
  go_wp2_with fail
  refine (qleft_any p v all b 0 _ HQ1.out hl).mono ?_
  rintro e w2 ⟨rfl, q, rfl⟩
  have hqd := HQ1.out.below (bel_drewN (Below.refl _ _) q)
  have hfq := HF1.out.trans (Frm.of_below (bel_drewN (Below.refl _ _) q))
  generalize w1.drewN q = w2 at *
  clear k2
  obtain ⟨_, _, k2, _⟩ := hqd.cells
  have HQ2 := hide hqd
  have HF2 := hide hfq
  clear hqd hfq HQ1 HF1
  go_wp2_with fail
  refine (qfixed_ok p v all b m _ HQ2.out hb2 hl).mono ?_
  rw [HTS.out]
  rintro e w3 ⟨ao, cap, rfl, ho, hq3, hf3⟩
  have HO := hide (ho.weaken HF2.out.size)
  have HQ3 := hide hq3
  have HF3 := hide (HF2.out.trans hf3)
  clear ho hq3 hf3 HQ2 HF2 k2
  go_wp2
  go_ret
  exact ⟨ao, cap, rfl, HO.out, HQ3.out, HF3.out⟩

theorem qrun_any (p : Nat) (v : Value) (all : List UInt8) (a : Nat) (f most : Int) (w : World) (h : Qd w p v all a f) (hl : all.length ≤ 150000000000000) :
    Calls Try.prog 57 #[.pointer (some ⟨p, 0, none⟩), .int .i64 most] w fun e w' => ∃ ao cap, e = .returned (.slice ao (rrun all a f most).1.length cap) ∧ Own w' w.heap.size (.slice ao (rrun all a f most).1.length cap) (rrun all a f most).1 ∧ Qd w' p v all (rrun all a f most).2.1 (rrun all a f most).2.2 ∧ Frm p w w' := by
  unfold rrun
  have hle := h.2.2
  by_cases hf : f = 0
  · subst hf
    rw [if_neg (by simp)]
    by_cases hn : (all.length : Int) - a < 2
    · rw [if_pos hn]
      refine (qrun_stop p v all a 0 most w h hl 10 ?_ rfl).mono fun e w' ⟨h1, h2, h3⟩ => ⟨none, 0, h1, Own.nil _ _, h2, h3⟩
      unfold rfix
      rw [if_neg (by simp), if_neg (by omega), if_pos hn]
    · rw [if_neg hn]
      have hr : rfix all a 0 2 = ((all.drop a).take 2, a + 2, 0) := by
        unfold rfix
        rw [if_neg (by simp), if_neg (by omega), if_neg hn]; rfl
      by_cases hb : most < (beval ((all.drop a).take 2) : Int)
      · rw [if_pos hb]
        exact (qrun_big p v all a most w h hl _ _ rfl hr hb).mono fun e w' ⟨h1, h2, h3⟩ => ⟨none, 0, h1, Own.nil _ _, h2, h3⟩
      · rw [if_neg hb]
        by_cases hb2 : (all.length : Int) - a - 2 < (beval ((all.drop a).take 2) : Int)
        · rw [if_pos hb2]
          exact (qrun_short p v all a most w h hl _ _ rfl hr (by omega) (by omega)).mono fun e w' ⟨h1, h2, h3⟩ => ⟨none, 0, h1, Own.nil _ _, h2, h3⟩
        · rw [if_neg hb2]
          exact qrun_ok p v all a most w h hl _ _ rfl hr (by omega) (by omega)
  · rw [if_pos hf]
    refine (qrun_stop p v all a f most w h hl f ?_ (beq_eq_false_iff_ne.2 hf)).mono fun e w' ⟨h1, h2, h3⟩ => ⟨none, 0, h1, Own.nil _ _, h2, h3⟩
    unfold rfix
    rw [if_pos hf]

set_option maxRecDepth 100000 in
set_option maxHeartbeats 1000000 in
theorem qend_any (p : Nat) (v : Value) (all : List UInt8) (a : Nat) (f : Int) (w : World) (h : Qd w p v all a f) (hl : all.length ≤ 150000000000000) :
    Calls Try.prog 58 #[.pointer (some ⟨p, 0, none⟩)] w fun e w' => e = .returned (.tuple #[]) ∧ Qd w' p v all a (if f = 0 ∧ a < all.length then 11 else f) ∧ Frm p w w' := by
  obtain ⟨_, _, h2, h3⟩ := h.cells
  have h3' := h3 2
  have hle := h.2.2
  by_cases hf : f = 0
  · subst hf
    have HQ := hide h
    clear h h3
    by_cases hs : a < all.length
    · rw [if_pos ⟨rfl, hs⟩]
      have hs' : (0 : Int) < (all.length : Int) - a := by omega
      have HF : Hid (∀ q, Qd ((w.drewN q).setCell ⟨p, 2, none⟩ (.int .i64 11)) p v all a 11) := fun q => (HQ.out.below (bel_drewN (Below.refl _ _) q)).fault 11
      have HM : Hid (∀ q, Frm p w ((w.drewN q).setCell ⟨p, 2, none⟩ (.int .i64 11))) := fun q => (Frm.of_below (bel_drewN (Below.refl _ _) q)).trans (Frm.setCell _ _ _ _)
      go_enter Try.func58, Try.ntmps58
      go_wp2_with fail
      refine (qleft_any p v all a 0 _ HQ.out hl).mono ?_
      rintro e w1 ⟨rfl, q, rfl⟩
      go_wp2
      go_end0
      exact ⟨rfl, HF.out q, HM.out q⟩
    · rw [if_neg (fun e => hs e.2)]
      have hs' : ¬ (0 : Int) < (all.length : Int) - a := by omega
      have HF : Hid (∀ q, Qd (w.drewN q) p v all a 0) := fun q => HQ.out.below (bel_drewN (Below.refl _ _) q)
      have HM : Hid (∀ q, Frm p w (w.drewN q)) := fun q => Frm.of_below (bel_drewN (Below.refl _ _) q)
      go_enter Try.func58, Try.ntmps58
      go_wp2_with fail
      refine (qleft_any p v all a 0 _ HQ.out hl).mono ?_
      rintro e w1 ⟨rfl, q, rfl⟩
      go_wp2
      go_end0
      exact ⟨rfl, HF.out q, HM.out q⟩
  · rw [if_neg (fun e => hf e.1)]
    have hf' : (f == 0) = false := beq_eq_false_iff_ne.2 hf
    have HQ := hide h
    clear h h3 hf
    go_enter Try.func58, Try.ntmps58
    go_wp2
    go_end0
    exact ⟨rfl, HQ.out, Frm.refl _ _⟩

set_option maxRecDepth 100000 in
set_option maxHeartbeats 400000 in
theorem qfault_any (p : Nat) (v : Value) (all : List UInt8) (a : Nat) (f : Int) (w : World) (h : Qd w p v all a f) :
    Calls Try.prog 59 #[.pointer (some ⟨p, 0, none⟩)] w fun e w' => e = .returned (.tuple #[.int .i64 (if f = 0 then 0 else (a : Int)), .int .i64 f]) ∧ ∃ q, w' = w.drewN q := by
  obtain ⟨_, h1, h2, h3⟩ := h.cells
  clear h h3
  by_cases hf : f = 0
  · subst hf
    rw [if_pos rfl]
    go_enter Try.func59, Try.ntmps59
    go_wp2
    go_ret2
    exact ⟨rfl, 0, rfl⟩
  · rw [if_neg hf]
    have hf' : (f == 0) = false := beq_eq_false_iff_ne.2 hf
    clear hf
    go_enter Try.func59, Try.ntmps59
    go_wp2
    go_quiet (fail)
    go_wp2
    go_ret2
    exact ⟨rfl, _, rfl⟩

theorem fault_any (p : Nat) (v : Value) (all : List UInt8) (a : Nat) (f : Int) (w : World) (h : Rd w p v all a f) :
    Calls Try.prog 31 #[.pointer (some ⟨p, 0, none⟩)] w fun e w' => e = .returned (.tuple #[.int .i64 (if f = 0 then 0 else (a : Int)), .int .i64 f]) ∧ ∃ q, w' = w.drewN q := by
  by_cases hf : f = 0
  · subst hf
    rw [if_pos rfl]
    exact (fault_ok p v all a w h).mono fun e w' ⟨h1, h2⟩ => ⟨h1, 0, h2.symm⟩
  · rw [if_neg hf]
    exact fault_is p v all a f w h (beq_eq_false_iff_ne.2 hf)

end Go.Proofs.Ytgfgabgnejnipaa
