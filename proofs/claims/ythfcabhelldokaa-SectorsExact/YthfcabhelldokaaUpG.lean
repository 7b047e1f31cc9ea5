import Derived.Test.YthfcabhelldokaaWr
set_option linter.unusedVariables false
set_option linter.unusedSimpArgs false
namespace Go.Proofs.Ythfcabhelldokaa
open Go.RowKit

def dropL (L : Lay) : Lay := ⟨L.p, L.gi, L.gn, .slice none 0 0, L.vk, []⟩
theorem drop_own (L : Lay) (k : Nat) (h : (dropL L).F k) : L.F k := by
  rcases h with h | h | h | h | h | h
  · exact .inl h
  · exact .inr (.inl h)
  · exact .inr (.inr (.inl h))
  · simp [dropL, Value.ownBlock] at h
  · exact .inr (.inr (.inr (.inr (.inl h))))
  · simp [dropL] at h
/-- Behind dropPending. -/
theorem Dev.dropped {w w' : World} {L : Lay} {D : Dv} (h : Dev w L D) (hf : Fx (fun k => k = L.gn ∨ k = L.p) w w') (hN : Blk w' L.gn (nwC D.n (fun _ => 0)) 3) (hP : Blk w' L.p (dvC L.gi D.n (.slice none 0 0) L.gn D.left L.vk D.torn D.off D.down D.calls) 75) : Dev w' (dropL L) { D with pen := [] } :=
  { dev := hP, img := h.img.fx hf (fun e => e.elim (fun e => h.inn e) (fun e => h.pi (Eq.symm e))), new := hN, pen := ⟨rfl, .inl ⟨rfl, rfl⟩⟩, bys := fun k g x h1 => by simp [dropL] at h1, gsl := rfl,
    kp := h.kp.fx hf (fun k hk e => e.elim (fun e => (h.vkn k hk).2.2.1 e) (fun e => (h.vkn k hk).1 e)), ok := ⟨h.ok.n1, h.ok.n2, h.ok.len, fun x hx => by simp at hx, by simp, h.ok.cal⟩, pi := h.pi, pn := h.pn, inn := h.inn,
    vpn := fun k hk => by simp [dropL, Value.ownBlock] at hk, vkn := fun k hk => ⟨(h.vkn k hk).1, (h.vkn k hk).2.1, (h.vkn k hk).2.2.1, Nat.lt_of_lt_of_le (h.vkn k hk).2.2.2 hf.size⟩, gsn := fun k hk => by simp [dropL] at hk }
/-- All pending writes go to the image. -/
def flushD (D : Dv) : Dv := { tickD D with img := imgT (fun _ => 512) D.pen D.img D.pen.length, pen := [] }
theorem flush_no {w : World} {L : Lay} {D : Dv} (h : Dev w L D) (hd : D.down = true) : Calls Try.prog 26 #[.pointer (some ⟨L.p, 0, none⟩)] w fun e w' => e = .returned (.int .i64 80) ∧ w' = w := by
  have hc := h.c7
  rw [hd] at hc
  clear h
  go_enter Try.func26, Try.ntmps26
  go_wp2
  go_ret
  exact ⟨rfl, rfl⟩
set_option maxRecDepth 100000 in
set_option maxHeartbeats 1000000 in
theorem flush_crash {w : World} {L : Lay} {D : Dv} (h : Dev w L D) (hd : D.down = false) (hcal : D.calls < 1000000000000) (h1 : D.left = 1) : Calls Try.prog 26 #[.pointer (some ⟨L.p, 0, none⟩)] w fun e w' =>
    e = .returned (.int .i64 80) ∧ Turn w w' L (bareL L) ∧ Dev w' (bareL L) (changedD D) := by
  have hc := h.c7
  rw [hd] at hc
  have hch := hide (changed_any h hcal (by omega))
  rw [show changedE D = 80 from if_pos h1, show changedL L D = bareL L from if_pos h1] at hch
  clear h h1
  go_enter Try.func26, Try.ntmps26
  go_wp2_with (first
    | (go_at_call 36; refine hch.out.mono ?_; rintro e w6 ⟨rfl, hp, hq⟩; have T6 := hide hp; have D6 := hide hq; clear hp hq)
    | fail)
  go_ret
  exact ⟨rfl, T6.out, D6.out⟩

set_option maxRecDepth 100000 in
set_option maxHeartbeats 4000000 in
theorem flush_ok {w : World} {L : Lay} {D : Dv} (h : Dev w L D) (hd : D.down = false) (hcal : D.calls < 1000000000000) (hleft : D.left < 9223372036854775808) (h1 : D.left ≠ 1) : Calls Try.prog 26 #[.pointer (some ⟨L.p, 0, none⟩)] w fun e w' =>
    e = .returned (.int .i64 0) ∧ Turn w w' L (dropL L) ∧ Dev w' (dropL L) (flushD D) := by
  have hc := h.c7
  rw [hd] at hc
  have hch := hide (changed_any h hcal hleft)
  rw [show changedE D = 0 from if_neg h1, show changedL L D = L from if_neg h1, show changedD D = tickD D from if_neg h1] at hch
  have hpen : (tickD D).pen = D.pen := rfl
  have himg : (tickD D).img = D.img := rfl
  unfold flushD
  rw [← hpen, ← himg]
  obtain ⟨E, hE⟩ : ∃ E, tickD D = E := ⟨_, rfl⟩
  rw [hE] at hch ⊢
  clear hpen himg hE h h1
  go_enter Try.func26, Try.ntmps26
  go_upto_region 6 with (first
    | (go_at_call 36; refine hch.out.mono ?_; rintro e w0 ⟨rfl, hp, hq⟩; have T0 := hide hp; have H := hide hq; clear hp hq)
    | fail)
  clear hc hch
  have hlen := pen_len H.out.pen
  have hc1 := H.out.c1
  have few := H.out.ok.few
  obtain ⟨m, hm⟩ : ∃ m, E.pen.length = m := ⟨_, rfl⟩
  rw [hm] at hlen few
  have HIL := hide (fun t ht => imgT_length (fun _ => 512) E.pen E.img E.n H.out.ok.len (fun _ => Nat.le_refl _) H.out.ok.sec t ht)
  go_wp2
  go_loopw [20] (fun i wr => ∃ t : Nat, t ≤ m ∧ i = .int .i64 t ∧ Hid (Fx (One L.gi) w0 wr ∧ Blk wr L.gi ((imgT (fun _ => 512) E.pen E.img t).map byt) 5)) (fun i _ => m - (intOf i).toNat)
  case atStart => exact ⟨0, by omega, rfl, hide ⟨Fx.refl _ _, H.out.img⟩⟩
  case round =>
    obtain ⟨t, ht, rfl, hs⟩ := hrel
    by_cases hlt : t < m
    · have hlz : (t : Int) < (m : Int) := by omega
      obtain ⟨x, hx⟩ : ∃ x, E.pen[t]? = some x := ⟨E.pen[t]'(by omega), List.getElem?_eq_getElem _⟩
      obtain ⟨gb, hgb⟩ : ∃ g, L.gs[t]? = some g := ⟨L.gs[t]'(by rw [H.out.gsl]; omega), List.getElem?_eq_getElem _⟩
      obtain ⟨g, hgo, hix, hrg⟩ := pen_item H.out.pen t gb x hgb hx
      obtain ⟨n1, n2, n3, _, _⟩ := H.out.vpn g hgo
      obtain ⟨hsec, hxb⟩ := H.out.ok.sec x (List.mem_of_getElem? hx)
      have hbb := H.out.bys t gb x hgb hx
      have hgbn := (H.out.gsn gb (List.mem_of_getElem? hgb)).2.1
      have RG : Hid (wr.rangeAt g (t * 2) (pwC x.1 (bV gb))) := hide (fun j v hj => hs.out.1.cell (hrg j v hj) (fun e => n2 e))
      have hget : E.pen.getD t (0, []) = x := by rw [List.getD_eq_getElem?_getD, hx]; rfl
      obtain ⟨gw, hgw⟩ : ∃ gw, wr.heap.size = gw := ⟨_, rfl⟩
      go_upto_region 9 with (first
        | (refine wpList_load_mid rfl 78 (.tmp 22) rfl g (t * 2) rfl (pwC x.1 (bV gb)) _ RG.out Try.underlying78 rfl (info78 _ _) ?_)
        | (refine wpList_newAt rfl 78 rfl _ zero78 gw hgw ?_)
        | (refine wpList_store_row rfl 78 (.tmp 5) (.tmp 23) rfl gw (pwC x.1 (bV gb)).toArray rfl rfl 78 _ (Blk.newAt hgw) (info78A _ _) rfl (pwC_one _ _) ?_))
      have be1 : Below wr.heap.size wr ((wr.alloc (.cells [Value.int .i64 0, .slice none 0 0].toArray 78)).setRow gw (pwC x.1 (bV gb)).toArray) := below_setRow (below_new wr _) _ _ (by omega)
      have bw : Blk ((wr.alloc (.cells [Value.int .i64 0, .slice none 0 0].toArray 78)).setRow gw (pwC x.1 (bV gb)).toArray) gw (pwC x.1 (bV gb)) 78 := (Blk.newAt hgw).setRow _
      generalize (wr.alloc (.cells [Value.int .i64 0, .slice none 0 0].toArray 78)).setRow gw (pwC x.1 (bV gb)).toArray = w1 at be1 bw ⊢
      have hf1 : Fx (One L.gi) w0 w1 := hs.out.1.then_below be1
      have hI1 : Blk w1 L.gi ((imgT (fun _ => 512) E.pen E.img t).map byt) 5 := hs.out.2.on be1
      have hst := hide (settle_any (w := w1) (L := L) (n := E.n) (img := imgT (fun _ => 512) E.pen E.img t) (hf1.cell H.out.c0 (fun e => H.out.pi e)) hI1 (HIL.out t (by omega)) H.out.ok.n2 x.1 512 hsec (Nat.le_refl _) (bV gb) x.2 hxb (Blk.hasB (hbb.fx hf1 (fun e => hgbn e)) hxb))
      have F1 := hide hf1
      have BW := hide bw
      clear hI1 hf1 be1 bw hs RG hrg hbb
      go_wp2_with (first
        | (refine wpList_load_row rfl 78 (.tmp 5) rfl gw rfl 78 (pwC x.1 (bV gb)).toArray (0, 0) _ BW.out Try.underlying78 rfl (info78A _ _) ?_)
        | (go_at_call 43; refine hst.out.mono ?_; rintro e w3 ⟨rfl, hp, hq⟩; have F3 := hide hp; have I3 := hide hq; clear hp hq)
        | fail)
      go_roundw
      case rel =>
        refine ⟨t + 1, by omega, by go_num, hide ⟨F1.out.and F3.out, ?_⟩⟩
        rw [imgT, hget]; exact I3.out
      case measure => simp [intOf]; omega
    · obtain rfl : t = m := by omega
      have hD : Dev wr L { E with img := imgT (fun _ => 512) E.pen E.img t } := H.out.setImg hs.out.1 _ hs.out.2 (HIL.out t (by omega))
      have hdr := hide (drop_any hD)
      have HS := hide hs.out.1
      have HDD := hide hD
      clear hs hD
      go_wp2_with (first
        | (go_at_call 44; refine hdr.out.mono ?_; rintro e w3 ⟨rfl, hp, hq, hr⟩; have F3 := hide hp; have N3 := hide hq; have P3 := hide hr; clear hp hq hr)
        | fail)
      go_ret
      refine ⟨rfl, T0.out.trans ⟨(HS.out.mono (fun i _ h => .inr (.inl h))).and (F3.out.mono (fun i _ h => h.elim (fun h => .inr (.inr (.inl h))) (fun h => .inl h))), fun k h => .inl (drop_own L k h), rfl⟩, ?_⟩
      rw [hm]
      exact HDD.out.dropped F3.out N3.out P3.out
end Go.Proofs.Ythfcabhelldokaa

set_option linter.unusedVariables false
set_option linter.unusedSimpArgs false
namespace Go.Proofs.Ythfcabhelldokaa
open Go.RowKit

/-- A sector while it is filled. -/
def secT (f : UInt8) (b : List UInt8) : Nat → List UInt8
  | 0 => List.replicate 512 0
  | t + 1 => (secT f b t).set t (if t < b.length then b.getD t 0 else f)
theorem secT_length (f : UInt8) (b : List UInt8) : ∀ t, (secT f b t).length = 512
  | 0 => by rw [secT, List.length_replicate]
  | t + 1 => by rw [secT, List.length_set, secT_length f b t]
/-- Full of a byte, begun with others. -/
def secL (f : UInt8) (b : List UInt8) : List UInt8 := secT f b 512
theorem secT_at (f : UInt8) (b : List UInt8) : ∀ t, t ≤ 512 → ∀ j, j < t → (secT f b t)[j]? = some (if j < b.length then b.getD j 0 else f)
  | 0, _, j, h => by omega
  | t + 1, ht, j, h => by
    rw [secT]
    by_cases hj : t = j
    · subst hj; rw [List.getElem?_set_self (by rw [secT_length]; omega)]
    · rw [List.getElem?_set_ne hj]; exact secT_at f b t (by omega) j (by omega)
theorem secL_length (f : UInt8) (b : List UInt8) : (secL f b).length = 512 := secT_length f b 512
theorem secL_full (f : UInt8) : secL f [] = List.replicate 512 f := by
  refine List.ext_getElem? fun j => ?_
  rcases Nat.lt_or_ge j 512 with h | h
  · rw [secL, secT_at f [] 512 (Nat.le_refl _) j h, List.getElem?_replicate_of_lt h, if_neg (by simp)]
  · rw [List.getElem?_eq_none (by rw [secL_length]; exact h), List.getElem?_eq_none (by rw [List.length_replicate]; exact h)]
theorem idx34 (ad : Addr) (n cap m : Nat) (h : m < n) (W : World) : (Instr.indexAt 34 (.slice (some ad) n cap) (.int .i64 (m : Int))).run Try.prog W = .ok (.pointer (some (ad.add m))) W := by
  have hm : (m : Int) < (n : Int) := by omega
  go_simp
  try simp
theorem idx34b (g n cap m : Nat) (h : m < n) (W : World) : (Instr.indexAt 34 (.slice (some ⟨g, 0, none⟩) n cap) (.int .i64 (m : Int))).run Try.prog W = .ok (.pointer (some ⟨g, m, none⟩)) W := by
  rw [idx34 ⟨g, 0, none⟩ n cap m h W, add_plain]
theorem byts_set (L : List UInt8) (j : Nat) (u : UInt8) : (L.map byt).set j (.int .u8 (u.toNat : Int)) = (L.set j u).map byt := by
  rw [List.map_set]; rfl
theorem alloc_set (w : World) (L : List UInt8) (g j : Nat) (u : UInt8) (h : w.heap.size = g) : (w.alloc (.cells (L.map byt).toArray 5)).setCell ⟨g, j, none⟩ (.int .u8 (u.toNat : Int)) = w.alloc (.cells ((L.set j u).map byt).toArray 5) := by
  rw [← h, alloc_setCell, byts_set]

set_option maxRecDepth 100000 in
set_option maxHeartbeats 2000000 in
theorem sector_any (f : UInt8) (vb : Value) (b : List UInt8) (hbl : b.length < 9223372036854775808) (w : World) (hv : Has w vb b) : Calls Try.prog 13 #[.int .u8 (f.toNat : Int), vb] w fun e w' =>
    e = .returned (.slice (some ⟨w.heap.size, 0, none⟩) 512 512) ∧ w' = w.alloc (.cells ((secL f b).map byt).toArray 5) := by
  have hmk := run_mk34 w 512 (by omega)
  rw [show ((512 : Nat) : Int) = 512 from rfl] at hmk
  have hlen := hv.len
  have HV := hide hv
  clear hv
  obtain ⟨g, hg⟩ : ∃ g, w.heap.size = g := ⟨_, rfl⟩
  obtain ⟨w1, hw1⟩ : ∃ w1, w.alloc (.cells ((List.replicate 512 (0 : UInt8)).map byt).toArray 5) = w1 := ⟨_, rfl⟩
  rw [hw1, hg] at hmk
  rw [hg]
  have HW1 := hide hw1
  clear hw1
  obtain ⟨m, hm⟩ : ∃ m, b.length = m := ⟨_, rfl⟩
  rw [hm] at hlen
  go_enter Try.func13, Try.ntmps13
  go_wp2
  go_loopw [6] (fun i wr => ∃ t : Nat, t ≤ 512 ∧ i = .int .i64 t ∧ Hid (wr = w.alloc (.cells ((secT f b t).map byt).toArray 5))) (fun i _ => 512 - (intOf i).toNat)
  case atStart => exact ⟨0, by omega, rfl, hide (by rw [← HW1.out]; rfl)⟩
  case round =>
    obtain ⟨t, ht, rfl, hs⟩ := hrel
    by_cases hlt : t < 512
    · have hlz : (t : Int) < 512 := by omega
      have B0 : Blk wr g ((secT f b t).map byt) 5 := by rw [hs.out]; exact Blk.newAt hg
      have hol : ((secT f b t).map byt)[t]? = some (byt ((secT f b t).getD t 0)) := by simp [List.getElem?_eq_getElem (show t < (secT f b t).length by rw [secT_length]; exact hlt)]
      have hold := (B0.cell t).trans hol
      have hfz := B0.frozen t
      have hix := fun W => idx34b g 512 512 t hlt W
      have B1 := B0.set t (.int .u8 (f.toNat : Int))
      have e1 : wr.setCell ⟨g, t, none⟩ (.int .u8 (f.toNat : Int)) = w.alloc (.cells (((secT f b t).set t f).map byt).toArray 5) := by rw [hs.out]; exact alloc_set w _ g t f hg
      obtain ⟨w2, hw2⟩ : ∃ w2, wr.setCell ⟨g, t, none⟩ (.int .u8 (f.toNat : Int)) = w2 := ⟨_, rfl⟩
      rw [hw2] at B1 e1
      by_cases hb : t < m
      · have hbz : (t : Int) < (m : Int) := by omega
        obtain ⟨ad, cap, rfl, hcells⟩ : ∃ ad cap, vb = .slice (some ad) m cap ∧ ∀ i u, b[i]? = some u → w.cell? (ad.add i) = some (byt u) := by
          rcases HV.out with ⟨_, h⟩ | ⟨ad, cap, h1, _, h3⟩
          · rw [h] at hm; simp at hm; omega
          · exact ⟨ad, cap, by rw [h1, hm], h3⟩
        obtain ⟨u, hu⟩ : ∃ u, b.getD t 0 = u := ⟨_, rfl⟩
        have hsrc0 := hcells t u (by rw [← hu, List.getD_eq_getElem?_getD, List.getElem?_eq_getElem (by omega)]; rfl)
        have hsrc : w2.cell? (ad.add t) = some (.int .u8 (u.toNat : Int)) := by
          rw [e1]
          exact ((below_new w _).cell (cell_lt hsrc0)).trans hsrc0
        have hixb := fun W => idx34 ad m cap t hb W
        have hold2 := (B1.cell t).trans (show ((((secT f b t).map byt).set t (.int .u8 (f.toNat : Int)))[t]? = some (.int .u8 (f.toNat : Int))) by rw [List.getElem?_set_self (by rw [List.length_map, secT_length]; exact hlt)])
        have hfz2 := B1.frozen t
        have E1 := hide e1
        have HU := hide hu
        clear hcells hs B0 B1 e1 hol hu hsrc0
        go_wp2
        go_roundw
        case rel =>
          refine ⟨t + 1, by omega, by go_num, hide ?_⟩
          rw [E1.out, alloc_set w _ g t u hg, List.set_set, secT, if_pos (by omega), HU.out]
        case measure => simp [intOf]; omega
      · have hbz : ¬ (t : Int) < (m : Int) := by omega
        have E1 := hide e1
        clear hs B0 B1 e1 hol
        go_wp2
        go_roundw
        case rel =>
          refine ⟨t + 1, by omega, by go_num, hide ?_⟩
          rw [E1.out, secT, if_neg (by omega)]
        case measure => simp [intOf]; omega
    · obtain rfl : t = 512 := by omega
      have HS := hide hs.out
      clear hs
      go_wp2
      go_ret
      exact ⟨rfl, HS.out⟩
end Go.Proofs.Ythfcabhelldokaa

set_option linter.unusedVariables false
set_option linter.unusedSimpArgs false
namespace Go.Proofs.Ythfcabhelldokaa
open Go.RowKit

theorem nwR_le : ∀ (l : List (Nat × List UInt8)) (i : Nat), nwR l i ≤ l.length
  | [], _ => Nat.le_refl _
  | x :: r, i => by
    rw [nwR, List.length_cons]
    split
    · omega
    · have := nwR_le r i; omega
theorem nw_le (pen : List (Nat × List UInt8)) (i : Nat) : nw pen i ≤ pen.length := by
  have := nwR_le pen.reverse i
  simpa [nw] using this
/-- What is read of a sector. -/
def readB (D : Dv) (i : Nat) : List UInt8 := if nw D.pen i = 0 then (D.img.drop (i * 512)).take 512 else (D.pen.getD (nw D.pen i - 1) (0, [])).2
theorem readB_length (D : Dv) (h : D.ok) (i : Nat) (hi : i < D.n) : (readB D i).length = 512 := by
  unfold readB
  split
  · have := h.len
    simp; omega
  · have hl := nw_le D.pen i
    rw [List.getD_eq_getElem?_getD, List.getElem?_eq_getElem (by omega)]
    exact (h.sec _ (List.getElem_mem _)).2
theorem read_no {w : World} {L : Lay} {D : Dv} (h : Dev w L D) (i : Int) (hr : refE D i ≠ 0) : Calls Try.prog 42 #[.pointer (some ⟨L.p, 0, none⟩), .int .i64 i] w fun e w' => e = .returned (.tuple #[.slice none 0 0, .int .i64 (refE D i)]) ∧ w' = w := by
  have hf := hide (refusal_any h i)
  clear h
  obtain ⟨E, hE⟩ : ∃ E, refE D i = E := ⟨_, rfl⟩
  rw [hE] at hr hf ⊢
  clear hE
  go_enter Try.func42, Try.ntmps42
  go_wp2_with (first
    | (go_at_call 34; refine hf.out.mono ?_; rintro e w3 ⟨rfl, rfl⟩)
    | fail)
  go_ret2
  exact ⟨rfl, rfl⟩
set_option maxRecDepth 100000 in
set_option maxHeartbeats 1000000 in
theorem read_ok {w : World} {L : Lay} {D : Dv} (h : Dev w L D) (hd : D.down = false) (i : Nat) (hi : i < D.n) : Calls Try.prog 42 #[.pointer (some ⟨L.p, 0, none⟩), .int .i64 (i : Int)] w fun e w' => e = .returned (.tuple #[.slice (some ⟨w.heap.size, 0, none⟩) 512 512, .int .i64 0]) ∧ w' = w.alloc (.cells ((readB D i).map byt).toArray 5) := by
  have hf := refusal_any h (i : Int)
  rw [show refE D (i : Int) = 0 by unfold refE; rw [hd]; simp; omega] at hf
  have HF := hide hf
  have hc1 := h.c1
  have hc2 := h.c2
  have hix := fun W => idx73 L.gn D.n i hi W
  have hnw := (h.new.cell i).trans (nwC_at D.n _ i hi)
  have hbl := readB_length D h.ok i hi
  by_cases hz : nw D.pen i = 0
  · have hdu := hide (durable_any h.c0 i hi h.ok.n2)
    have hs : Has w (secV L.gi D.n i) (readB D i) := by
      refine .inr ⟨⟨L.gi, i * 512, none⟩, D.n * 512 - i * 512, by rw [hbl]; rfl, by rw [hbl]; omega, fun j u hu => ?_⟩
      rw [add_off, h.img.cell, List.getElem?_map]
      rw [readB, if_pos hz] at hu
      have hj : j < 512 := by
        rcases Nat.lt_or_ge j 512 with h1 | h1
        · exact h1
        · rw [List.getElem?_eq_none (by simp; omega)] at hu; cases hu
      rw [List.getElem?_take_of_lt hj, List.getElem?_drop] at hu
      rw [hu]; rfl
    have hcp := copied_any _ (readB D i) (by omega) w hs
    rw [hbl] at hcp
    have HCP := hide hcp
    obtain ⟨V, hV⟩ : ∃ V, secV L.gi D.n i = V := ⟨_, rfl⟩
    rw [hV] at hdu HCP
    rw [hz] at hnw
    clear h hf hcp hs hV hbl hi
    go_enter Try.func42, Try.ntmps42
    go_wp2_with (first
      | (go_at_call 34; refine HF.out.mono ?_; rintro e w3 ⟨rfl, hz3⟩; rw [hz3]; clear hz3 w3)
      | (go_at_call 60; refine hdu.out.mono ?_; rintro e w3 ⟨rfl, hz3⟩; rw [hz3]; clear hz3 w3)
      | (go_at_call 35; refine HCP.out.mono ?_; rintro e w3 ⟨rfl, rfl⟩)
      | fail)
    go_ret2
    exact ⟨rfl, rfl⟩
  · have hl := nw_le D.pen i
    obtain ⟨k, hk⟩ : ∃ k, nw D.pen i = k + 1 := ⟨nw D.pen i - 1, by omega⟩
    obtain ⟨x, hx⟩ : ∃ x, D.pen[k]? = some x := ⟨D.pen[k]'(by omega), List.getElem?_eq_getElem _⟩
    obtain ⟨gb, hgb⟩ : ∃ g, L.gs[k]? = some g := ⟨L.gs[k]'(by rw [h.gsl]; omega), List.getElem?_eq_getElem _⟩
    obtain ⟨g, hgo, hix2, hrg⟩ := pen_item h.pen k gb x hgb hx
    have hcell : w.cell? ⟨g, k * 2 + 1, none⟩ = some (.slice (some ⟨gb, 0, none⟩) 512 512) := hrg 1 _ rfl
    have hrb : readB D i = x.2 := by rw [readB, if_neg hz, hk, Nat.add_sub_cancel, List.getD_eq_getElem?_getD, hx]; rfl
    have hb := h.bys k gb x hgb hx
    have hs : Has w (.slice (some ⟨gb, 0, none⟩) 512 512) (readB D i) := .inr ⟨⟨gb, 0, none⟩, 512, by rw [hbl], by rw [hbl]; omega, fun j u hu => by rw [hrb] at hu; rw [add_plain, hb.cell, List.getElem?_map, hu]; rfl⟩
    have hcp := copied_any _ (readB D i) (by omega) w hs
    rw [hbl] at hcp
    have HCP := hide hcp
    rw [hk] at hnw
    have p1 : (0 : Int) < ((k + 1 : Nat) : Int) := by omega
    have p2 : ((k + 1 : Nat) : Int) - 1 = (k : Int) := by omega
    have p3 : wrap64 (((k + 1 : Nat) : Int) - 1) = (k : Int) := by rw [p2]; exact IntWalk.wrap64_in _ (by have := h.ok.few; omega)
    have p4 : wrap64 (k : Int) = (k : Int) := IntWalk.wrap64_in _ (by have := h.ok.few; omega)
    obtain ⟨k1, hk1⟩ : ∃ k1, k + 1 = k1 := ⟨_, rfl⟩
    rw [hk1] at hnw p1 p2 p3
    clear h hf hcp hs hbl hi hk1 hk hl hz hrb hb hrg hgo
    go_enter Try.func42, Try.ntmps42
    go_wp2_with (first
      | (go_at_call 34; refine HF.out.mono ?_; rintro e w3 ⟨rfl, hz3⟩; rw [hz3]; clear hz3 w3)
      | (go_at_call 35; refine HCP.out.mono ?_; rintro e w3 ⟨rfl, rfl⟩)
      | fail)
    go_ret2
    exact ⟨rfl, rfl⟩
end Go.Proofs.Ythfcabhelldokaa

set_option linter.unusedVariables false
set_option linter.unusedSimpArgs false
namespace Go.Proofs.Ythfcabhelldokaa
open Go.RowKit

/-- Without its loss. -/
def unkL (L : Lay) : Lay := ⟨L.p, L.gi, L.gn, L.vp, .slice none 0 0, L.gs⟩
theorem unk_own (L : Lay) (k : Nat) (h : (unkL L).F k) : L.F k := by
  rcases h with h | h | h | h | h | h
  · exact .inl h
  · exact .inr (.inl h)
  · exact .inr (.inr (.inl h))
  · exact .inr (.inr (.inr (.inl h)))
  · simp [unkL, Value.ownBlock] at h
  · exact .inr (.inr (.inr (.inr (.inr h))))
/-- It runs again. -/
def upD (D : Dv) : Dv := ⟨D.n, D.img, D.pen, 0, [], 0, 0, false, D.calls⟩
/-- Behind a disarming. -/
theorem Dev.disarmed {w w' : World} {L : Lay} {D : Dv} (h : Dev w L D) (hf : Fx (One L.p) w w') (down : Bool) (hP : Blk w' L.p (dvC L.gi D.n L.vp L.gn 0 (.slice none 0 0) 0 0 down D.calls) 75) : Dev w' (unkL L) ⟨D.n, D.img, D.pen, 0, [], 0, 0, down, D.calls⟩ :=
  { dev := hP, img := h.img.fx hf (Ne.symm h.pi), new := h.new.fx hf (Ne.symm h.pn), pen := ownsRow_fx h.pen hf (fun k hk e => (h.vpn k hk).1 e),
    bys := fun k g x h1 h2 => (h.bys k g x h1 h2).fx hf (fun e => (h.gsn g (List.mem_of_getElem? h1)).1 e), gsl := h.gsl, kp := Has64.nil _,
    ok := ⟨h.ok.n1, h.ok.n2, h.ok.len, h.ok.sec, h.ok.few, h.ok.cal⟩, pi := h.pi, pn := h.pn, inn := h.inn,
    vpn := fun k hk => ⟨(h.vpn k hk).1, (h.vpn k hk).2.1, (h.vpn k hk).2.2.1, by simp [unkL, Value.ownBlock], (h.vpn k hk).2.2.2.2⟩,
    vkn := fun k hk => by simp [unkL, Value.ownBlock] at hk,
    gsn := fun k hk => ⟨(h.gsn k hk).1, (h.gsn k hk).2.1, (h.gsn k hk).2.2.1, Nat.lt_of_lt_of_le (h.gsn k hk).2.2.2 hf.size⟩ }
set_option maxRecDepth 100000 in
set_option maxHeartbeats 1000000 in
theorem up_any {w : World} {L : Lay} {D : Dv} (h : Dev w L D) : Calls Try.prog 25 #[.pointer (some ⟨L.p, 0, none⟩)] w fun e w' => e = .returned (.int .i64 0) ∧ Turn w w' L (unkL L) ∧ Dev w' (unkL L) (upD D) := by
  have hda := hide (disarm_any h.dev)
  have H := hide h
  clear h
  go_enter Try.func25, Try.ntmps25
  go_wp2_with (first
    | (go_at_call 41; refine hda.out.mono ?_; rintro e w4 ⟨rfl, hp, hq⟩; have F4 := hide hp; have D4 := hide hq; have hfz := hq.frozen 7; have hold := (hq.cell 7).trans (show _ = some (.bool D.down) from rfl); clear hp hq)
    | fail)
  go_ret
  have D5 := D4.out.set 7 (.bool false)
  have F5 : Fx (One L.p) w (w4.setCell ⟨L.p, 7, none⟩ (.bool false)) := F4.out.and (Fx.setCell _ _ _ _ rfl)
  exact ⟨rfl, ⟨F5.mono (fun i _ h => .inl h), fun k h => .inl (unk_own L k h), rfl⟩, H.out.disarmed F5 false D5⟩
end Go.Proofs.Ythfcabhelldokaa
