import Derived.Test.YtiefgmgjlhjjhaaDoorDigG
namespace Go.Proofs.YtiefgmgjlhjjhaaDoor
open Go.RowKit

theorem flat_take (ps : List (Value × List UInt8)) (k : Nat) (h : k < ps.length) : (ps.take (k + 1)).flatMap (·.2) = (ps.take k).flatMap (·.2) ++ ps[k].2 := by
  rw [List.take_succ_eq_append_getElem h, List.flatMap_append]; simp
theorem flat_len (ps : List (Value × List UInt8)) (k : Nat) : ((ps.take k).flatMap (·.2)).length ≤ (ps.flatMap (·.2)).length := by
  conv => rhs; rw [← List.take_append_drop k ps]
  rw [List.flatMap_append, List.length_append]; omega

theorem Parts.shape {w : World} {v : Value} {ps : List (Value × List UInt8)} (h : Parts w v ps) : ∃ ao cap, v = .slice ao ps.length cap ∧ ∀ i p, ps[i]? = some p → ∃ ad, ao = some ad ∧ w.cell? (ad.add i) = some p.1 ∧ Has w p.1 p.2 := by
  rcases h with ⟨rfl, rfl⟩ | ⟨ad, cap, rfl, _, h3⟩
  · exact ⟨none, 0, rfl, fun i p hp => by simp at hp⟩
  · exact ⟨some ad, cap, rfl, fun i p hp => ⟨ad, rfl, h3 i p hp⟩⟩

set_option maxHeartbeats 2000000 in
set_option maxRecDepth 100000 in
theorem sum_any (v : Value) (ps : List (Value × List UInt8)) (w : World) (hP : Parts w v ps) (hK : Kst w) (hn : (ps.flatMap (·.2)).length ≤ 1152921504606846976) (hl : ps.length ≤ 1000000) :
    Calls Tryd.prog 36 #[v] w fun e w' => e = .returned (.agg ((sumOf (ps.flatMap (·.2))).map byt).toArray) ∧ Below w.heap.size w w' := by
  obtain ⟨ao, cap, rfl, hcell⟩ := hP.shape
  have HC := hide hcell
  have HK := hide hK
  have HN := hide hn
  clear hcell hK hn hP
  obtain ⟨M, hM⟩ : ∃ M, M = ps.flatMap (·.2) := ⟨_, rfl⟩
  rw [← hM]
  have HM := hide hM
  clear hM
  go_enter Tryd.func36, Tryd.ntmps36
  go_wp2_with (first
    | (refine wpList_newAt rfl 92 rfl (z32.map byt) zero24 w.heap.size rfl ?_)
    | (go_at_call 57; refine (new_any _).mono ?_; rintro e w1 ⟨g, rfl, hg1, hh1, hb1⟩; have HG1 : Hid (w.heap.size + 1 ≤ g) := (by have := hg1; simp at this; exact this); have HH1 := hide hh1; have HB1 := hide hb1; clear hg1 hh1 hb1))
  go_loopw [9] (fun i wr => ∃ k : Nat, k ≤ ps.length ∧ i = .int .i64 k ∧ Hid (HAt wr g ((ps.take k).flatMap (·.2))) ∧ Hid (Fx (One g) w1 wr)) (fun i _ => ps.length - (intOf i).toNat)
  case atStart => exact ⟨0, by omega, rfl, HH1, hide (Fx.refl _ _)⟩
  case round =>
    obtain ⟨k, hk, rfl, hy, hf⟩ := hrel
    have hbw : Hid (Below w.heap.size w w1) := ((Below.refl w.heap.size w).alloc (Nat.le_refl _) _).trans (HB1.out.mono (by simp))
    have hfw : Hid (Below w.heap.size w wr) := hbw.out.trans (hf.out.below (fun j hj (e : j = g) => by have := HG1.out; omega) hbw.out.size)
    by_cases hlt : k < ps.length
    · have hlz : (k : Int) < (ps.length : Int) := by omega
      obtain ⟨ad, rfl, hc, hh⟩ := HC.out k ps[k] (List.getElem?_eq_getElem hlt)
      have hc' : wr.cell? (ad.add k) = some ps[k].1 := (hfw.out.cell (cell_lt hc)).trans hc
      have HHAS : Hid (Has wr ps[k].1 ps[k].2) := hh.below (by exact ⟨hfw.out.os, hfw.out.tape, hfw.out.output, hfw.out.size, hfw.out.block⟩)
      have HNE := hide (has_lt hh g (by have := HG1.out; omega))
      have HK2 : Hid (Kst wr) := HK.out.below hfw.out HK.out.lt
      have HF := hide (flat_take ps k hlt)
      have HLn : Hid (((ps.take k).flatMap (·.2)).length + ps[k].2.length ≤ 1152921504606846976) := by
        have e1 := flat_take ps k hlt
        have e2 := flat_len ps (k + 1)
        have := HN.out
        rw [e1, List.length_append] at e2
        show _ ≤ _
        omega
      clear hc hh
      generalize ps[k].2 = py at *
      generalize ps[k].1 = pv at *
      go_wp2_with (go_at_call 58; refine (write_any g _ py pv _ hy.out HHAS.out HNE.out HK2.out (by have := HG1.out; omega) (by have := HLn.out; omega)).mono ?_; rintro e w2 ⟨rfl, hH2, hF2⟩; have H2 := hide hH2; have F2 := hide hF2; clear hH2 hF2)
      go_roundw
      case rel => exact ⟨k + 1, by omega, by go_num, by rw [HF.out]; exact H2, hide (hf.out.and F2.out)⟩
      case measure => simp [intOf]; omega
    · obtain rfl : k = ps.length := by omega
      rw [List.take_length, ← HM.out] at hy
      have HNM : Hid (M.length ≤ 1152921504606846976) := by rw [HM.out]; exact HN
      have HK2 : Hid (Kst wr) := HK.out.below hfw.out HK.out.lt
      have hsz := info24 (sumOf M) (sumOf_length M)
      have hre : Hid (Blk wr w.heap.size (z32.map byt) 92) := ((Blk.new w _ _).below HB1.out (by simp)).fx hf.out (fun e : w.heap.size = g => by have := HG1.out; omega)
      go_wp2_with (first
        | (go_at_call 59; refine (hsum_any g M _ hy.out HK2.out HNM.out).mono ?_; rintro e w3 ⟨rfl, hb3⟩; have HB3 := hide hb3; clear hb3)
        | (refine wpList_store_row rfl 92 (.tmp 2) (.tmp 18) rfl w.heap.size ((sumOf M).map byt).toArray rfl rfl 92 (z32.map byt).toArray (hre.out.below HB3.out hre.out.lt) hsz (by rw [List.size_toArray, List.size_toArray, List.length_map, List.length_map, sumOf_length]; rfl) (byts_one _) ?_))
      refine bodyPost_ret (v := .agg ((sumOf M).map byt).toArray) ?_ rfl ⟨rfl, below_setRow (hfw.out.trans (HB3.out.mono hfw.out.size)) _ _ (Nat.le_refl _)⟩
      exact results_cell_row Tryd.results36 _ _ w.heap.size 92 _ (0, 0) _ rfl ((hre.out.below HB3.out hre.out.lt).setRow _) Tryd.underlying92 rfl hsz
/-- The bytes, each XORed with x. -/
def xr (x : UInt8) (b : List UInt8) : List UInt8 := b.map (· ^^^ x)
/-- The first k of them are done. -/
def xrk (x : UInt8) (b : List UInt8) (k : Nat) : List UInt8 := xr x (b.take k) ++ b.drop k

theorem xr_length (x : UInt8) (b : List UInt8) : (xr x b).length = b.length := by simp [xr]
theorem xrk_length (x : UInt8) (b : List UInt8) (k : Nat) : (xrk x b k).length = b.length := by simp [xrk, xr]; omega
theorem xrk_zero (x : UInt8) (b : List UInt8) : xrk x b 0 = b := by simp [xrk, xr]
theorem xrk_all (x : UInt8) (b : List UInt8) (k : Nat) (h : b.length ≤ k) : xrk x b k = xr x b := by
  simp [xrk, List.take_of_length_le h, List.drop_eq_nil_of_le h]
theorem xrk_at (x : UInt8) (b : List UInt8) (k : Nat) (h : k < b.length) : (xrk x b k).getD k 0 = b.getD k 0 := by
  have hl : (xr x (b.take k)).length = k := by simp [xr]; omega
  unfold xrk
  rw [List.getD_eq_getElem?_getD, List.getElem?_append_right (by omega), hl, Nat.sub_self, List.getElem?_drop, List.getD_eq_getElem?_getD, Nat.add_zero]
theorem xrk_succ (x : UInt8) (b : List UInt8) (k : Nat) (h : k < b.length) : (xrk x b k).set k (b.getD k 0 ^^^ x) = xrk x b (k + 1) := by
  have hl : (xr x (b.take k)).length = k := by simp [xr]; omega
  unfold xrk
  rw [List.set_append_right _ _ (by omega), hl, Nat.sub_self, List.drop_eq_getElem_cons h, List.set_cons_zero, List.take_succ_eq_append_getElem h]
  simp only [xr, List.map_append, List.map_cons, List.map_nil, List.append_assoc, List.cons_append, List.nil_append, List.getD_eq_getElem?_getD, List.getElem?_eq_getElem h, Option.getD_some]

/-- The block of 'begun'. -/
structure Bg (w wx : World) (L : List UInt8) : Prop where
  bl : Blk wx w.heap.size (L.map byt) 134
  be : Below w.heap.size w wx
theorem Bg.set {w wx : World} {L : List UInt8} (h : Bg w wx L) (j : Nat) (u : UInt8) : Bg w (wx.setCell ⟨w.heap.size, j, none⟩ (.int .u8 (u.toNat : Int))) (L.set j u) :=
  ⟨by rw [← byts_set]; exact h.bl.set j _, h.be.setCell (Nat.le_refl _) _⟩

theorem Blk.has {w : World} {g : Nat} {L : List UInt8} {t : TypeId} (h : Blk w g (L.map byt) t) (n : Nat) (hn : L.length = n) : Has w (.slice (some ⟨g, 0, none⟩) n n) L := by
  subst hn
  refine .inr ⟨_, _, rfl, Nat.le_refl _, fun i u hu => ?_⟩
  rw [add_plain, h.cell, List.getElem?_map, hu]; rfl

/-- 'copy(x[o:], b)', x a block of bytes. -/
theorem wpList_cpb {ops : Array Oper} {rest : List Oper} {o : Oper} {a : Act} {w : World} {Q : Exit → Act → World → Prop} (hgd : o.guard = none) (d x : Operand)
    (ho : o.op = .call { callee := .builtin .copy, args := #[d, x], argTypes := #[24, 24] }) (p off n c : Nat) (hd : a.eval d = .slice (some ⟨p, off, none⟩) n c)
    (v : Value) (bs : List UInt8) (hx : a.eval x = v) (hv : Has w v bs) (L : List UInt8) (t : TypeId) (hB : Blk w p (L.map byt) t) (hon : off + n ≤ L.length)
    (h : ∀ (q : Int) w', Blk w' p ((L.take off ++ bs.take n ++ L.drop (off + (bs.take n).length)).map byt) t → Fx (One p) w w' → wpList Tryd.prog ops Q rest (a.put o.dst (.int .i64 q)) w') : wpList Tryd.prog ops Q (o :: rest) a w := by
  have hl : (bs.take n).length = min n bs.length := List.length_take
  rcases hv with ⟨rfl, rfl⟩ | ⟨ad, cap, rfl, h2, h3⟩
  · have hrun := run_copy_none (P := Tryd.prog) w 24 24 o.type 5 (some ⟨p, off, none⟩) none n c 0 0 Tryd.underlying24 info5s (by simp)
    refine wpList_plain hgd fun K hK => ?_
    unfold Oper.wp
    simp [execOp, ho, resolve, invoke, builtin, hd, hx, hrun, Result.andThen]
    refine hK _ _ ?_
    exact h 0 w (by simpa using hB) (Fx.refl _ _)
  · have hrun := run_copy_cells (P := Tryd.prog) w 24 24 o.type 5 p off n c ad bs.length cap ((bs.take n).map byt) Tryd.underlying24 info5s (by rw [List.length_map, hl]; exact Nat.min_comm _ _)
      (fun j v hj => by
        rw [List.getElem?_map, Option.map_eq_some_iff] at hj
        obtain ⟨u, hu, rfl⟩ := hj
        have hjq : j < (bs.take n).length := (List.getElem?_eq_some_iff.1 hu).1
        rw [List.getElem?_take_of_lt (by omega)] at hu
        exact h3 j u hu)
      (fun j hj => by
        rw [List.length_map] at hj
        rw [hB.cell, List.getElem?_eq_getElem (by rw [List.length_map]; omega)]; rfl) (fun j _ => hB.frozen _) (byt_one _)
    refine wpList_plain hgd fun K hK => ?_
    unfold Oper.wp
    rw [List.length_map] at hrun
    have hb := Blk.setCells ((bs.take n).map byt) off w (L.map byt) hB (by rw [List.length_map, List.length_map]; omega)
    have hfin := h ((bs.take n).length : Int) (w.setCells p off ((bs.take n).map byt)) (by
      rw [List.length_map] at hb
      rw [List.map_append, List.map_append, List.map_drop, show (L.take off).map byt = (L.map byt).take off from List.map_take]
      exact hb) (Fx.setCells (S := One p) p rfl _ _ _)
    generalize w.setCells p off ((bs.take n).map byt) = w' at hrun hfin
    generalize (bs.take n).length = q at hrun hfin
    simp [execOp, ho, resolve, invoke, builtin, hd, hx, hrun, Result.andThen]
    exact hK _ _ hfin

/-- What serves as the key. -/
def kk (key : List UInt8) : List UInt8 := if 64 < key.length then sumOf key else key
/-- The key's block. -/
def kb (key : List UInt8) : List UInt8 := kk key ++ List.replicate (64 - (kk key).length) 0
theorem kk_length (key : List UInt8) : (kk key).length ≤ 64 := by
  unfold kk
  split
  · rw [sumOf_length]; decide
  · omega
theorem kb_length (key : List UInt8) : (kb key).length = 64 := by
  have := kk_length key
  unfold kb
  rw [List.length_append, List.length_replicate]; omega
/-- The digest of a text under a key. -/
def macOf (key m : List UInt8) : List UInt8 := sumOf (xr 92 (kb key) ++ sumOf (xr 54 (kb key) ++ m))
theorem macOf_length (key m : List UInt8) : (macOf key m).length = 32 := sumOf_length _

theorem zero35 (w : World) : (zeroValue 134).run Tryd.prog w = .ok (.agg (z64b.map byt).toArray) w := by
  rw [Tryd.zeroValue134]; rfl

theorem parts_new (W : World) (ps : List (Value × List UInt8)) (h : ∀ p ∈ ps, Has W p.1 p.2) :
    Parts (W.alloc (.cells (ps.map (·.1)).toArray 24)) (.slice (some ⟨W.heap.size, 0, none⟩) ps.length ps.length) ps := by
  refine .inr ⟨_, _, rfl, Nat.le_refl _, fun i p hp => ?_⟩
  rw [add_plain]
  refine ⟨?_, (h p (List.mem_of_getElem? hp)).below (below_new W _)⟩
  rw [(Blk.new W (ps.map (·.1)) 24).cell, List.getElem?_map, hp]; rfl

theorem sum_new (W : World) (ps : List (Value × List UInt8)) (M : List UInt8) (h : ∀ p ∈ ps, Has W p.1 p.2) (hK : Kst W) (hM : ps.flatMap (·.2) = M) (hn : M.length ≤ 1152921504606846976) (hl : ps.length ≤ 1000) :
    Calls Tryd.prog 36 #[.slice (some ⟨W.heap.size, 0, none⟩) ps.length ps.length] (W.alloc (.cells (ps.map (·.1)).toArray 24)) fun e w' => e = .returned (.agg ((sumOf M).map byt).toArray) ∧ Below W.heap.size W w' := by
  subst hM
  refine (sum_any _ ps _ (parts_new W ps h) (hK.below (below_new W _) hK.lt) hn (by omega)).mono fun e w' ⟨h1, h2⟩ => ⟨h1, (below_new W _).trans (h2.mono (below_new W _).size)⟩

theorem sum_at (W : World) (n : Nat) (hW : n = W.heap.size) (ps : List (Value × List UInt8)) (M : List UInt8) (h : ∀ p ∈ ps, Has W p.1 p.2) (hK : Kst W) (hM : ps.flatMap (·.2) = M) (hn : M.length ≤ 1152921504606846976) (hl : ps.length ≤ 1000) :
    Calls Tryd.prog 36 #[.slice (some ⟨n, 0, none⟩) ps.length ps.length] (W.alloc (.cells (ps.map (·.1)).toArray 24)) fun e w' => e = .returned (.agg ((sumOf M).map byt).toArray) ∧ Below W.heap.size W w' := by
  subst hW
  exact sum_new W ps M h hK hM hn hl

theorem one_all {W : World} {v : Value} {bs : List UInt8} (h : Has W v bs) : ∀ p ∈ [(v, bs)], Has W p.1 p.2 := by
  intro p hp
  simp only [List.mem_cons, List.not_mem_nil, or_false] at hp
  subst hp
  exact h

theorem kb_of (K : List UInt8) (h : K.length ≤ 64) : z64b.take 0 ++ K.take 64 ++ z64b.drop (0 + (K.take 64).length) = K ++ List.replicate (64 - K.length) 0 := by
  rw [List.take_of_length_le h, List.take_zero, List.nil_append, Nat.zero_add, z64b, List.drop_replicate]

end Go.Proofs.YtiefgmgjlhjjhaaDoor
