import Derived.Test.YtgfgabgnejnipaaWrx
namespace Go.Proofs.Ytgfgabgnejnipaa
open Go.RowKit

/-- The document's writer: its struct lies in block p; the bytes in a row of its own. -/
def Vr (w : World) (p : Nat) (v : Value) (most : Nat) (bs : List UInt8) (f : Int) : Prop :=
  w.heap[p]? = some (.cells #[.int .i64 most, v, .int .i64 f] 98) ∧ Own w (p + 1) v bs

theorem Vr.cells {w : World} {p : Nat} {v : Value} {most : Nat} {bs : List UInt8} {f : Int} (h : Vr w p v most bs f) :
    w.cell? ⟨p, 0, none⟩ = some (.int .i64 most) ∧ w.cell? ⟨p, 1, none⟩ = some v ∧ w.cell? ⟨p, 2, none⟩ = some (.int .i64 f) ∧ ∀ o, w.frozen? ⟨p, o, none⟩ = false := by
  refine ⟨?_, ?_, ?_, fun o => ?_⟩ <;> simp [World.cell?, World.frozen?, h.1]

theorem Vr.lt {w : World} {p : Nat} {v : Value} {most : Nat} {bs : List UInt8} {f : Int} (h : Vr w p v most bs f) : p < w.heap.size := block_lt h.1
theorem Vr.below {w w' : World} {p : Nat} {v : Value} {most : Nat} {bs : List UInt8} {f : Int} (h : Vr w p v most bs f) (hb : Below w.heap.size w w') : Vr w' p v most bs f :=
  ⟨(hb.block p h.lt).trans h.1, h.2.below hb⟩
theorem Vr.fault {w : World} {p : Nat} {v : Value} {most : Nat} {bs : List UInt8} {f : Int} (h : Vr w p v most bs f) (k : Int) : Vr (w.setCell ⟨p, 2, none⟩ (.int .i64 k)) p v most bs k :=
  ⟨by rw [setCell_block w p 2 _ h.1]; rfl, ownsRow_setCell_below h.2 (by simp) _⟩
theorem Vr.store {w : World} {p : Nat} {v v' : Value} {most : Nat} {bs : List UInt8} {f : Int} (hp : w.heap[p]? = some (.cells #[.int .i64 most, v, .int .i64 f] 98)) (ho : Own w (p + 1) v' bs) : Vr (w.setCell ⟨p, 1, none⟩ v') p v' most bs f :=
  ⟨by rw [setCell_block w p 1 _ hp]; rfl, ownsRow_setCell_below ho (by simp) _⟩
theorem Vr.foot {w : World} {p : Nat} {v : Value} {most : Nat} {bs : List UInt8} {f : Int} (h : Vr w p v most bs f) {k : Nat} (hk : Foot p v k) : k < w.heap.size := by
  rcases hk with rfl | hk
  · exact h.lt
  · exact h.2.lt k hk

def Vx (w w' : World) (p : Nat) (v : Value) (most : Nat) (bs : List UInt8) (f : Int) : Prop :=
  ∃ v', Vr w' p v' most bs f ∧ Fx (Foot p v) w w' ∧ Nw w v v'
theorem Vx.same {w w' : World} {p : Nat} {v : Value} {most : Nat} {bs : List UInt8} {f : Int} (h : Vr w' p v most bs f) (hf : Fx (Foot p v) w w') : Vx w w' p v most bs f :=
  ⟨v, h, hf, Nw.refl _ _⟩
theorem Vx.early {w w1 w' : World} {p : Nat} {v : Value} {most : Nat} {bs : List UInt8} {f : Int} (h : Vx w1 w' p v most bs f) (hb : Below w.heap.size w w1) : Vx w w' p v most bs f := by
  obtain ⟨v', h1, h2, h3⟩ := h
  refine ⟨v', h1, (Fx.of_below hb).trans h2 (fun _ _ s => s), fun k hk => ?_⟩
  rcases h3 k hk with h | h
  · exact .inl h
  · exact .inr (Nat.le_trans hb.size h)

set_option maxRecDepth 100000 in
set_option maxHeartbeats 400000 in
theorem field_keep (p : Nat) (v bv : Value) (most : Nat) (bs : List UInt8) (f k : Int) (w : World) (h : Vr w p v most bs f) (hf : (f == 0) = false) :
    Calls Try.prog 63 #[.pointer (some ⟨p, 0, none⟩), bv, .int .i64 k] w fun e w' => e = .returned (.tuple #[]) ∧ w = w' := by
  obtain ⟨_, _, h2, _⟩ := h.cells
  clear h
  go_enter Try.func63, Try.ntmps63
  go_wp2
  exact bodyPost_ret (v := .tuple #[]) (by simp [results, Try.results63, go_sem]) rfl ⟨rfl, rfl⟩

set_option maxRecDepth 100000 in
set_option maxHeartbeats 400000 in
theorem field_bad (p : Nat) (v bv : Value) (most : Nat) (bs : List UInt8) (k : Int) (w : World) (h : Vr w p v most bs 0) (hk : (k == 0) = false) :
    Calls Try.prog 63 #[.pointer (some ⟨p, 0, none⟩), bv, .int .i64 k] w fun e w' => e = .returned (.tuple #[]) ∧ Vr w' p v most bs k ∧ Fx (Foot p v) w w' := by
  obtain ⟨h0, h1, h2, h3⟩ := h.cells
  have h3' := h3 2
  have HF : Hid (∀ q, Vr ((w.drewN q).setCell ⟨p, 2, none⟩ (.int .i64 k)) p v most bs k) := fun q => (h.below (bel_drewN (Below.refl _ _) q)).fault k
  have HB : Hid (∀ q, Fx (Foot p v) w ((w.drewN q).setCell ⟨p, 2, none⟩ (.int .i64 k))) := fun q => (Fx.of_below (bel_drewN (Below.refl _ _) q)).trans (Fx.setCell (S := Foot p v) _ p 2 (.int .i64 k) (.inl rfl)) (fun _ _ s => s)
  clear h h3
  go_enter Try.func63, Try.ntmps63
  go_wp2
  go_quiet (fail)
  go_wp2
  exact bodyPost_ret (v := .tuple #[]) (by simp [results, Try.results63, go_sem]) rfl ⟨rfl, HF.out _, HB.out _⟩

set_option maxRecDepth 100000 in
set_option maxHeartbeats 400000 in
theorem field_long (p : Nat) (v bv : Value) (most : Nat) (bs ys : List UInt8) (w : World) (h : Vr w p v most bs 0) (hm : most ≤ 1048576) (hbl : bs.length ≤ most) (hy : Has w bv ys) (hyl : ys.length ≤ 150000000000000) (hlong : most < bs.length + ys.length) :
    Calls Try.prog 63 #[.pointer (some ⟨p, 0, none⟩), bv, .int .i64 0] w fun e w' => e = .returned (.tuple #[]) ∧ Vr w' p v most bs 5 ∧ Fx (Foot p v) w w' := by
  obtain ⟨h0, h1, h2, h3⟩ := h.cells
  have h3' := h3 2
  have ly := hy.len
  have lv := h.2.has.len
  have hd : (most : Int) < (bs.length : Int) + (ys.length : Int) := by omega
  have HF : Hid (∀ q, Vr ((w.drewN q).setCell ⟨p, 2, none⟩ (.int .i64 5)) p v most bs 5) := fun q => (h.below (bel_drewN (Below.refl _ _) q)).fault 5
  have HB : Hid (∀ q, Fx (Foot p v) w ((w.drewN q).setCell ⟨p, 2, none⟩ (.int .i64 5))) := fun q => (Fx.of_below (bel_drewN (Below.refl _ _) q)).trans (Fx.setCell (S := Foot p v) _ p 2 (.int .i64 5) (.inl rfl)) (fun _ _ s => s)
  clear h h3
  go_enter Try.func63, Try.ntmps63
  go_wp2
  go_quiet (fail)
  go_wp2
  exact bodyPost_ret (v := .tuple #[]) (by simp [results, Try.results63, go_sem]) rfl ⟨rfl, HF.out _, HB.out _⟩

set_option maxRecDepth 100000 in
set_option maxHeartbeats 1000000 in
theorem field_ok (p : Nat) (v bv : Value) (most : Nat) (bs ys : List UInt8) (w : World) (h : Vr w p v most bs 0) (hm : most ≤ 1048576) (hy : Has w bv ys) (hfit : bs.length + ys.length ≤ most) :
    Calls Try.prog 63 #[.pointer (some ⟨p, 0, none⟩), bv, .int .i64 0] w fun e w' => e = .returned (.tuple #[]) ∧ Vx w w' p v most (bs ++ ys) 0 := by
  obtain ⟨h0, h1, h2, h3⟩ := h.cells
  have h3' := h3 1
  have ly := hy.len
  have lv := h.2.has.len
  have hd : ¬ (most : Int) < (bs.length : Int) + (ys.length : Int) := by omega
  have hd2 : (bs.length : Int) + (ys.length : Int) ≤ 1048576 := by omega
  have HW := hide h
  have HY := hide hy
  clear h h3 hy
  go_enter Try.func63, Try.ntmps63
  go_wp2
  go_quiet (fail)
  go_wp2_with (at_builtin; refine wpList_appx rfl _ _ rfl (p + 1) _ bs rfl (HW.out.2.below (bel_drewN (Below.refl _ _) nq)) _ ys rfl (HY.out.drewN nq) (by omega) (by have := HW.out.lt; simp; omega) ?_)
  intro v' w1 hown1 hg1 hnw1
  obtain ⟨zs, hzs⟩ : ∃ zs, zs = bs ++ ys := ⟨_, rfl⟩
  rw [← hzs] at hown1
  have HZ := hide hzs
  clear hzs
  obtain ⟨co, cq, rfl⟩ := hown1.slice
  have hp1 : w1.heap[p]? = some (.cells #[.int .i64 most, v, .int .i64 0] 98) := (hg1.block p HW.out.lt (fun e => by have := HW.out.2.ownBlock p e.symm; omega)).trans HW.out.1
  have c2 : w1.cell? ⟨p, 1, none⟩ = some v := by simp [World.cell?, hp1]
  have c3 : w1.frozen? ⟨p, 1, none⟩ = false := by simp [World.frozen?, hp1]
  have HW2 := hide (Vr.store hp1 hown1)
  have HF2 : Hid (Fx (Foot p v) w (w1.setCell ⟨p, 1, none⟩ (.slice co zs.length cq)) ∧ Nw w v (.slice co zs.length cq)) :=
    ⟨((Fx.of_below (bel_drewN (Below.refl _ _) nq)).trans (Fx.grown (S := Foot p v) hg1 (fun k e => .inr e)) (fun _ _ s => s)).trans (Fx.setCell (S := Foot p v) w1 p 1 _ (.inl rfl)) (fun _ _ s => s), fun k hk => hnw1 k hk⟩
  clear hp1 hown1 hg1 hnw1 HW HY
  go_wp2
  go_end0
  rw [← HZ.out]
  exact ⟨rfl, _, HW2.out, HF2.out⟩

theorem field_any (p : Nat) (v bv : Value) (most : Nat) (bs ys : List UInt8) (f : Int) (w : World) (h : Vr w p v most bs f) (hm : most ≤ 1048576) (hbl : bs.length ≤ most) (hy : Has w bv ys) (hyl : ys.length ≤ 150000000000000) :
    Calls Try.prog 63 #[.pointer (some ⟨p, 0, none⟩), bv, .int .i64 0] w fun e w' => e = .returned (.tuple #[]) ∧ Vx w w' p v most (put1 most bs f ys).1 (put1 most bs f ys).2 := by
  unfold put1
  by_cases hf : f = 0
  · subst hf
    rw [if_neg (by simp)]
    by_cases hfit : bs.length + ys.length ≤ most
    · rw [if_pos hfit]
      exact field_ok p v bv most bs ys w h hm hy hfit
    · rw [if_neg hfit]
      exact (field_long p v bv most bs ys w h hm hbl hy hyl (by omega)).mono fun e w' ⟨h1, h2, h3⟩ => ⟨h1, Vx.same h2 h3⟩
  · rw [if_pos hf]
    exact (field_keep p v bv most bs f 0 w h (beq_eq_false_iff_ne.2 hf)).mono fun e w' ⟨h1, h2⟩ => ⟨h1, by subst h2; exact Vx.same h (Fx.refl _ _)⟩

theorem field_err (p : Nat) (v bv : Value) (most : Nat) (bs : List UInt8) (f k : Int) (w : World) (h : Vr w p v most bs f) (hk : (k == 0) = false) :
    Calls Try.prog 63 #[.pointer (some ⟨p, 0, none⟩), bv, .int .i64 k] w fun e w' => e = .returned (.tuple #[]) ∧ Vx w w' p v most bs (flt f k) := by
  unfold flt
  by_cases hf : f = 0
  · subst hf; rw [if_neg (by simp)]
    exact (field_bad p v bv most bs k w h hk).mono fun e w' ⟨h1, h2, h3⟩ => ⟨h1, Vx.same h2 h3⟩
  · rw [if_pos hf]
    exact (field_keep p v bv most bs f k w h (beq_eq_false_iff_ne.2 hf)).mono fun e w' ⟨h1, h2⟩ => ⟨h1, by subst h2; exact Vx.same h (Fx.refl _ _)⟩

set_option maxRecDepth 100000 in
set_option maxHeartbeats 400000 in
theorem vnew_ok (most : Nat) (w : World) (hm : most ≤ 1048576) :
    Calls Try.prog 46 #[.int .i64 most] w fun e w' => e = .returned (.tuple #[.pointer (some ⟨w.heap.size, 0, none⟩), .int .i64 0]) ∧ Vr w' w.heap.size (.slice none 0 0) most [] 0 ∧ Below w.heap.size w w' := by
  have hm' : (most : Int) ≤ 1048576 := by omega
  go_enter Try.func46, Try.ntmps46
  go_wp2
  go_ret2
  exact ⟨rfl, ⟨at_new w _ _ ⟨rfl, rfl, rfl, rfl⟩, Own.nil _ _⟩, below_new _ _⟩

set_option maxRecDepth 100000 in
set_option maxHeartbeats 400000 in
theorem vnew_bad (n : Int) (w : World) (hn : n < 0 ∨ 1048576 < n) :
    Calls Try.prog 46 #[.int .i64 n] w fun e w' => e = .returned (.tuple #[.pointer none, .int .i64 4]) ∧ w = w' := by
  rcases hn with hn | hn
  all_goals
    go_enter Try.func46, Try.ntmps46
    go_wp2
    go_ret2
    exact ⟨rfl, rfl⟩

set_option maxRecDepth 100000 in
set_option maxHeartbeats 400000 in
theorem wnew_bad (n : Int) (w : World) (hn : n < 0 ∨ 1048576 < n) :
    Calls Try.prog 17 #[.int .i64 n] w fun e w' => e = .returned (.tuple #[.pointer none, .int .i64 4]) ∧ w = w' := by
  rcases hn with hn | hn
  all_goals
    go_enter Try.func17, Try.ntmps17
    go_wp2
    go_ret2
    exact ⟨rfl, rfl⟩

set_option maxRecDepth 100000 in
set_option maxHeartbeats 400000 in
theorem vout_fault (p : Nat) (v : Value) (most : Nat) (bs : List UInt8) (f : Int) (w : World) (h : Vr w p v most bs f) (hf : (f == 0) = false) :
    Calls Try.prog 50 #[.pointer (some ⟨p, 0, none⟩)] w fun e w' => e = .returned (.tuple #[.slice none 0 0, .int .i64 f]) ∧ ∃ q, w' = w.drewN q := by
  obtain ⟨_, _, h2, _⟩ := h.cells
  clear h
  go_enter Try.func50, Try.ntmps50
  go_wp2
  go_quiet (fail)
  go_wp2
  go_ret2
  exact ⟨rfl, _, rfl⟩

set_option maxRecDepth 100000 in
set_option maxHeartbeats 400000 in
theorem vout_ok (p : Nat) (v : Value) (most : Nat) (bs : List UInt8) (w : World) (h : Vr w p v most bs 0) (hm : most ≤ 1048576) (hbl : bs.length ≤ most) :
    Calls Try.prog 50 #[.pointer (some ⟨p, 0, none⟩)] w fun e w' => ∃ ao cap, e = .returned (.tuple #[.slice ao bs.length cap, .int .i64 0]) ∧ Own w' w.heap.size (.slice ao bs.length cap) bs ∧ Below w.heap.size w w' := by
  obtain ⟨_, h1, h2, _⟩ := h.cells
  have HH := hide h.2.has
  clear h
  go_enter Try.func50, Try.ntmps50
  go_wp2_with (at_builtin; refine wpList_app rfl _ _ rfl w.heap.size _ [] rfl (Own.nil _ _) _ bs rfl HH.out (by simp; omega) (Nat.le_refl _) ?_)
  intro v1 w1 hown1 hg1
  have HB := hide ((Below.refl w.heap.size w).grown hg1 (Nat.le_refl _) (Own.nil w w.heap.size).ownBlock)
  have hown2 : Own w1 w.heap.size v1 bs := hown1
  obtain ⟨ao, cp, rfl⟩ := hown2.slice
  have HO := hide hown2
  clear hown1 hown2 hg1 HH
  go_wp2
  go_ret2
  exact ⟨ao, cp, rfl, HO.out, HB.out⟩

set_option maxRecDepth 100000 in
set_option maxHeartbeats 1000000 in
theorem vfixed_any (p : Nat) (v : Value) (most : Nat) (bs : List UInt8) (f : Int) (g n : Nat) (ps : List (Value × List UInt8)) (w : World) (h : Vr w p v most bs f) (hm : most ≤ 1048576) (hbl : bs.length ≤ most)
    (hg : w.heap[g]? = some (.cells (ps.map (·.1)).toArray 22)) (hp : ∀ q ∈ ps, Has w q.1 q.2) (hn : ps.length ≤ 100) (ys : List UInt8) (hys : ps.flatMap (·.2) = ys) (hyl : ys.length ≤ 150000000000000) (hnn : n = ps.length) :
    Calls Try.prog 48 #[.pointer (some ⟨p, 0, none⟩), .slice (some ⟨g, 0, none⟩) n n] w fun e w' => e = .returned (.tuple #[]) ∧ Vx w w' p v most (put1 most bs f ys).1 (put1 most bs f ys).2 := by
  have HP : Hid (∀ q ∈ ps, Has w q.1 q.2) := hp
  have HG := hide hg
  have HW := hide h
  have HYS := hide hys
  have HNN := hide hnn
  clear hp hg h hys hnn
  go_enter Try.func48, Try.ntmps48
  go_wp2_with fail
  refine (rjoin_at w g n ps ys HG.out HP.out (by omega) HYS.out hyl HNN.out).mono ?_
  rintro e w1 ⟨ao, cap, rfl, ho, hb⟩
  have HW1 := hide (HW.out.below hb)
  have HO := hide ho
  have HB := hide hb
  clear ho hb HW HP HG HYS
  go_wp2_with fail
  refine (field_any p v _ most bs ys f w1 HW1.out hm hbl HO.out.has hyl).mono ?_
  rintro e w2 ⟨rfl, h2⟩
  have H2 := hide (h2.early HB.out)
  clear h2
  go_wp2
  go_end0
  exact ⟨rfl, H2.out⟩

set_option maxRecDepth 100000 in
set_option maxHeartbeats 1000000 in
theorem vrun_bad (p : Nat) (v bv : Value) (most : Nat) (bs ys : List UInt8) (f : Int) (w : World) (h : Vr w p v most bs f) (hy : Has w bv ys) (hn : 65535 < ys.length) (hn2 : ys.length ≤ 150000000000000) :
    Calls Try.prog 49 #[.pointer (some ⟨p, 0, none⟩), bv] w fun e w' => e = .returned (.tuple #[]) ∧ Vx w w' p v most bs (flt f 12) := by
  have hlen := hy.len
  have hb : (65535 : Int) < (ys.length : Int) := by omega
  go_enter Try.func49, Try.ntmps49
  go_wp2_with fail
  refine (field_err p v _ most bs f 12 _ h rfl).mono ?_
  rintro e w' ⟨rfl, h1⟩
  go_wp2
  exact bodyPost_ret (v := .tuple #[]) (by simp [results, Try.results49, go_sem]) rfl ⟨rfl, h1⟩

set_option maxRecDepth 100000 in
set_option maxHeartbeats 1000000 in
theorem vrun_ok (p : Nat) (v bv : Value) (most : Nat) (bs ys : List UInt8) (f : Int) (w : World) (h : Vr w p v most bs f) (hm : most ≤ 1048576) (hbl : bs.length ≤ most) (hy : Has w bv ys) (hn : ys.length ≤ 65535) :
    Calls Try.prog 49 #[.pointer (some ⟨p, 0, none⟩), bv] w fun e w' => e = .returned (.tuple #[]) ∧ Vx w w' p v most (put1 most bs f (be16 ys.length ++ ys)).1 (put1 most bs f (be16 ys.length ++ ys)).2 := by
  have hlen := hy.len
  have hb : (ys.length : Int) ≤ 65535 := by omega
  have HW := hide h
  have HY := hide hy
  clear h hy
  go_enter Try.func49, Try.ntmps49
  go_wp2_with fail
  refine (renum_any ys.length 2 w (by omega) (by omega) (by omega)).mono ?_
  rw [ben2]
  rintro e w1 ⟨g, rfl, ho, hb1⟩
  have HY1 := hide (HY.out.below hb1)
  have HO := hide ho
  have HB := hide hb1
  clear ho hb1 HY
  have hl2 : (be16 ys.length).length = 2 := rfl
  obtain ⟨nb, hnb⟩ : ∃ nb, nb = be16 ys.length := ⟨_, rfl⟩
  have HNB := hide hnb
  rw [← hnb] at HO hl2
  clear hnb
  go_wp2_with (at_builtin; refine wpList_app rfl _ _ rfl w.heap.size _ nb rfl (by unfold Own; rw [hl2]; have := HO.out; unfold Own at this; rw [hl2] at this; exact this) _ ys rfl HY1.out (by omega) HB.out.size ?_)
  intro v2 w2 hown2 hg2
  have HB2 := hide (HB.out.grown hg2 HB.out.size HO.out.ownBlock)
  have HW2 := hide (HW.out.below HB2.out)
  obtain ⟨zs, hzs⟩ : ∃ zs, zs = nb ++ ys := ⟨_, rfl⟩
  rw [← hzs] at hown2
  have hzl : zs.length ≤ 150000000000000 := by rw [hzs]; simp; omega
  have HO2 := hide hown2
  have HZ := hide hzs
  clear hown2 hg2 HY1 HO HB HW hzs hl2
  go_wp2_with fail
  refine (field_any p v _ most bs zs f w2 HW2.out hm hbl HO2.out.has hzl).mono ?_
  rintro e w3 ⟨rfl, h3⟩
  have H3 := hide (h3.early HB2.out)
  clear h3
  go_wp2
  go_end0
  rw [← HNB.out, ← HZ.out]
  exact ⟨rfl, H3.out⟩

set_option maxRecDepth 100000 in
set_option maxHeartbeats 1000000 in
theorem vnum_any (p : Nat) (v : Value) (most : Nat) (bs : List UInt8) (f n : Int) (s : Nat) (w : World) (h : Vr w p v most bs f) (hm : most ≤ 1048576) (hbl : bs.length ≤ most) (hs : 0 < s) (hs4 : s ≤ 4) :
    Calls Try.prog 47 #[.pointer (some ⟨p, 0, none⟩), .int .i64 n, .int .i64 (s : Int)] w fun e w' => e = .returned (.tuple #[]) ∧ Vx w w' p v most (putn most bs f n s).1 (putn most bs f n s).2 := by
  have HW := hide h
  clear h
  obtain ⟨M, hM⟩ : ∃ M : Nat, M = 256 ^ s := ⟨_, rfl⟩
  have hMle : M ≤ 4294967296 := by
    rw [hM]
    exact Nat.le_trans (Nat.pow_le_pow_right (by decide) hs4) (by decide)
  have HM := hide hM
  clear hM
  go_enter Try.func47, Try.ntmps47
  go_wp2
  go_loop [6, 7] (fun m i => ∃ k : Nat, 1 ≤ k ∧ k ≤ s ∧ i = .int .i64 k ∧ m = .int .i64 ((256 ^ k : Nat) : Int)) (fun _ i => s - (intOf i).toNat)
  case atStart => exact ⟨1, by omega, by omega, rfl, rfl⟩
  case round =>
    obtain ⟨k, hk1, hk, rfl, rfl⟩ := hrel
    by_cases hlt : k < s
    · have hi : (k : Int) < (s : Int) := by omega
      have HE : Hid (256 ^ (k + 1) = 256 ^ k * 256) := Nat.pow_succ _ _
      have hB : 256 ^ k ≤ 16777216 := Nat.le_trans (Nat.pow_le_pow_right (by decide) (show k ≤ 3 by omega)) (by decide)
      generalize 256 ^ k = m at *
      go_wp2
      go_round
      case rel => exact ⟨k + 1, by omega, by omega, by go_num, by rw [HE.out]; go_num⟩
      case measure => simp [intOf]; omega
    · obtain rfl : k = s := by omega
      have hMk : 256 ^ k = M := HM.out.symm
      rw [hMk]
      clear hlt hMk
      by_cases hn : n < 0 ∨ (M : Int) ≤ n
      · have HP : Hid (putn most bs f n k = (bs, flt f 4)) := by
          show putn _ _ _ _ _ = _
          unfold putn
          have hm2 := HM.out
          rw [if_pos]
          rcases hn with h | h
          · exact .inl h
          · exact .inr (by rw [hm2] at h; exact_mod_cast h)
        rcases hn with hn | hn
        · go_wp2_with fail
          refine (field_err p v _ most bs f 4 _ HW.out rfl).mono ?_
          rintro e w' ⟨rfl, h1⟩
          have H1 := hide h1
          clear h1
          go_wp2
          exact bodyPost_ret (v := .tuple #[]) (by simp [results, Try.results47, go_sem]) rfl ⟨rfl, by rw [HP.out]; exact H1.out⟩
        · have hn0 : ¬ n < 0 := by omega
          go_wp2_with fail
          refine (field_err p v _ most bs f 4 _ HW.out rfl).mono ?_
          rintro e w' ⟨rfl, h1⟩
          have H1 := hide h1
          clear h1
          go_wp2
          exact bodyPost_ret (v := .tuple #[]) (by simp [results, Try.results47, go_sem]) rfl ⟨rfl, by rw [HP.out]; exact H1.out⟩
      · obtain ⟨m, rfl⟩ := Int.eq_ofNat_of_zero_le (show 0 ≤ n by omega)
        have HP : Hid (putn most bs f (m : Int) k = put1 most bs f (ben k m)) := by
          show putn _ _ _ _ _ = _
          unfold putn
          have hm2 := HM.out
          rw [if_neg]
          · rfl
          · rintro (h | h)
            · omega
            · exact hn (.inr (by rw [hm2]; exact_mod_cast h))
        have h1 : ¬ (m : Int) < 0 := by omega
        have h2 : (m : Int) < (M : Int) := by omega
        have h3 : m < 4294967296 := by omega
        clear hn
        go_wp2_with fail
        refine (renum_any m k w (by omega) (by omega) h3).mono ?_
        rintro e w1 ⟨g, rfl, ho, hb1⟩
        have HW1 := hide (HW.out.below hb1)
        have HO := hide ho
        have HB := hide hb1
        have hbl2 : (ben k m).length ≤ 150000000000000 := by rw [ben_length]; omega
        clear ho hb1 HW
        go_wp2_with fail
        refine (field_any p v _ most bs (ben k m) f w1 HW1.out hm hbl HO.out.has hbl2).mono ?_
        rintro e w2 ⟨rfl, h4⟩
        have H4 := hide (h4.early HB.out)
        clear h4
        go_wp2
        go_end0
        exact ⟨rfl, by rw [HP.out]; exact H4.out⟩

end Go.Proofs.Ytgfgabgnejnipaa
