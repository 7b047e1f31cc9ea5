import Derived.Test.YtoceepmehmacbaaDoorSumG
namespace Go.Proofs.YtoceepmehmacbaaDoor
open Go.RowKit

/-- The bytes, each XORed with x. -/
def xr (x : UInt8) (b : List UInt8) : List UInt8 := b.map (· ^^^ x)
/-- The first k of them are done. -/
def xrk (x : UInt8) (b : List UInt8) (k : Nat) : List UInt8 := xr x (b.take k) ++ b.drop k

theorem xr_length (x : UInt8) (b : List UInt8) : (xr x b).length = b.length := by simp [xr]
theorem xrk_length (x : UInt8) (b : List UInt8) (k : Nat) : (xrk x b k).length = b.length := by simp [xrk, xr]; omega
theorem xrk_zero (x : UInt8) (b : List UInt8) : xrk x b 0 = b := by simp [xrk, xr]
theorem xrk_all (x : UInt8) (b : List UInt8) (k : Nat) (h : b.length ≤ k) : xrk x b k = xr x b := by
  simp [xrk, List.take_of_length_le h, List.drop_eq_nil_of_le h]
theorem xrk_at (x : UInt8) (b : List UInt8) (k : Nat) (h : k < b.length) : (xrk x b k).getD k 0 = b.getD k 0 := by
  have hl : (xr x (b.take k)).length = k := by simp [xr]; omega
  unfold xrk
  rw [List.getD_eq_getElem?_getD, List.getElem?_append_right (by omega), hl, Nat.sub_self, List.getElem?_drop, List.getD_eq_getElem?_getD, Nat.add_zero]
theorem xrk_succ (x : UInt8) (b : List UInt8) (k : Nat) (h : k < b.length) : (xrk x b k).set k (b.getD k 0 ^^^ x) = xrk x b (k + 1) := by
  have hl : (xr x (b.take k)).length = k := by simp [xr]; omega
  unfold xrk
  rw [List.set_append_right _ _ (by omega), hl, Nat.sub_self, List.drop_eq_getElem_cons h, List.set_cons_zero, List.take_succ_eq_append_getElem h]
  simp only [xr, List.map_append, List.map_cons, List.map_nil, List.append_assoc, List.cons_append, List.nil_append, List.getD_eq_getElem?_getD, List.getElem?_eq_getElem h, Option.getD_some]

/-- The block of 'begun'. -/
structure Bg (w wx : World) (L : List UInt8) : Prop where
  bl : Blk wx w.heap.size (L.map byt) 31
  be : Below w.heap.size w wx
theorem Bg.set {w wx : World} {L : List UInt8} (h : Bg w wx L) (j : Nat) (u : UInt8) : Bg w (wx.setCell ⟨w.heap.size, j, none⟩ (.int .u8 (u.toNat : Int))) (L.set j u) :=
  ⟨by rw [← byts_set]; exact h.bl.set j _, h.be.setCell (Nat.le_refl _) _⟩

theorem Blk.has {w : World} {g : Nat} {L : List UInt8} {t : TypeId} (h : Blk w g (L.map byt) t) (n : Nat) (hn : L.length = n) : Has w (.slice (some ⟨g, 0, none⟩) n n) L := by
  subst hn
  refine .inr ⟨_, _, rfl, Nat.le_refl _, fun i u hu => ?_⟩
  rw [add_plain, h.cell, List.getElem?_map, hu]; rfl

set_option maxHeartbeats 2000000 in
set_option maxRecDepth 100000 in
theorem begun_any (b : List UInt8) (hb : b.length = 64) (x : UInt8) (w : World) (hK : Kst w) :
    Calls Tryd.prog 43 #[.agg (b.map byt).toArray, .int .u8 (x.toNat : Int)] w fun e w' => ∃ g, e = .returned (.pointer (some ⟨g, 0, none⟩)) ∧ w.heap.size ≤ g ∧ HAt w' g (xr x b) ∧ Below w.heap.size w w' := by
  have HB := hide hb
  have HK := hide hK
  clear hb hK
  go_enter Tryd.func43, Tryd.ntmps43
  go_wp2_with (refine wpList_boxAt rfl 31 _ rfl (b.map byt) rfl w.heap.size rfl ?_)
  have hG : Hid (Bg w (w.alloc (.cells (b.map byt).toArray 31)) (xrk x b 0)) := by
    rw [xrk_zero]
    exact ⟨Blk.new w _ _, below_new w _⟩
  generalize w.alloc (.cells (b.map byt).toArray 31) = w0 at hG ⊢
  go_loopw [7] (fun i wr => ∃ k : Nat, k ≤ 64 ∧ i = .int .i64 k ∧ Hid (Bg w wr (xrk x b k))) (fun i _ => 64 - (intOf i).toNat)
  case atStart => exact ⟨0, by omega, rfl, hG⟩
  case round =>
    obtain ⟨k, hk, rfl, hx⟩ := hrel
    by_cases hlt : k < 64
    · have hlz : (k : Int) < 64 := by omega
      have hkb : k < b.length := by rw [HB.out]; exact hlt
      have hc : wr.cell? ⟨w.heap.size, k, none⟩ = some (.int .u8 ((b.getD k 0).toNat : Int)) := by
        rw [hx.out.bl.cell, byts_at _ _ (by rw [xrk_length]; exact hkb), xrk_at x b k hkb]
      have hf := hx.out.bl.frozen k
      have hxor := xor_u8 (b.getD k 0) x
      have hnext : Hid (Bg w (wr.setCell ⟨w.heap.size, k, none⟩ (.int .u8 (((b.getD k 0) ^^^ x).toNat : Int))) (xrk x b (k + 1))) := by
        have := hx.out.set k (b.getD k 0 ^^^ x)
        rw [xrk_succ x b k hkb] at this
        exact this
      generalize b.getD k 0 = u at *
      go_wp2
      go_roundw
      case rel => exact ⟨k + 1, by omega, by go_num, hnext⟩
      case measure => simp [intOf]; omega
    · obtain rfl : k = 64 := by omega
      rw [xrk_all x b 64 (by rw [HB.out]; exact Nat.le_refl _)] at hx
      have hKr : Hid (Kst wr) := HK.out.below hx.out.be HK.out.lt
      go_wp2_with (first
        | (go_at_call 61; refine (new_any _).mono ?_; rintro e w1 ⟨g, rfl, hg1, hh1, hb1⟩; have HG1 := hide hg1; have HH1 := hide hh1; have HB1 := hide hb1; clear hg1 hh1 hb1)
        | fail)
      have hbl1 : Blk w1 w.heap.size ((xr x b).map byt) 31 := hx.out.bl.below HB1.out hx.out.bl.lt
      have hl64 : (xr x b).length = 64 := by rw [xr_length, HB.out]
      have hlt0 := hx.out.bl.lt
      have hgw := HG1.out
      refine (write_any g [] (xr x b) (.slice (some ⟨w.heap.size, 0, none⟩) 64 64) _ HH1.out (hbl1.has 64 hl64) (.inr (fun e => by simp [Value.ownBlock] at e; omega)) (hKr.out.below HB1.out hKr.out.lt) (by omega) (by simp [hl64])).mono ?_
      rintro e w2 ⟨rfl, hh2, hf2⟩
      have HH2 := hide hh2
      have HF2 := hide hf2
      clear hh2 hf2 hbl1
      go_wp2
      go_ret
      rw [List.nil_append] at HH2
      refine ⟨g, rfl, by omega, HH2.out, ?_⟩
      have b1 : Below w.heap.size w w1 := hx.out.be.trans (HB1.out.mono hx.out.be.size)
      exact b1.trans (HF2.out.below (fun j hj (e : j = g) => by omega) b1.size)

/-- 'copy(x[o:], b)', x a block of bytes. -/
theorem wpList_cpb {ops : Array Oper} {rest : List Oper} {o : Oper} {a : Act} {w : World} {Q : Exit → Act → World → Prop} (hgd : o.guard = none) (d x : Operand)
    (ho : o.op = .call { callee := .builtin .copy, args := #[d, x], argTypes := #[40, 40] }) (p off n c : Nat) (hd : a.eval d = .slice (some ⟨p, off, none⟩) n c)
    (v : Value) (bs : List UInt8) (hx : a.eval x = v) (hv : Has w v bs) (L : List UInt8) (t : TypeId) (hB : Blk w p (L.map byt) t) (hon : off + n ≤ L.length)
    (h : ∀ (q : Int) w', Blk w' p ((L.take off ++ bs.take n ++ L.drop (off + (bs.take n).length)).map byt) t → Fx (One p) w w' → wpList Tryd.prog ops Q rest (a.put o.dst (.int .i64 q)) w') : wpList Tryd.prog ops Q (o :: rest) a w := by
  have hl : (bs.take n).length = min n bs.length := List.length_take
  rcases hv with ⟨rfl, rfl⟩ | ⟨ad, cap, rfl, h2, h3⟩
  · have hrun := run_copy_none (P := Tryd.prog) w 40 40 o.type 5 (some ⟨p, off, none⟩) none n c 0 0 Tryd.underlying40 info5s (by simp)
    refine wpList_plain hgd fun K hK => ?_
    unfold Oper.wp
    simp [execOp, ho, resolve, invoke, builtin, hd, hx, hrun, Result.andThen]
    refine hK _ _ ?_
    exact h 0 w (by simpa using hB) (Fx.refl _ _)
  · have hrun := run_copy_cells (P := Tryd.prog) w 40 40 o.type 5 p off n c ad bs.length cap ((bs.take n).map byt) Tryd.underlying40 info5s (by rw [List.length_map, hl]; exact Nat.min_comm _ _)
      (fun j v hj => by
        rw [List.getElem?_map, Option.map_eq_some_iff] at hj
        obtain ⟨u, hu, rfl⟩ := hj
        have hjq : j < (bs.take n).length := (List.getElem?_eq_some_iff.1 hu).1
        rw [List.getElem?_take_of_lt (by omega)] at hu
        exact h3 j u hu)
      (fun j hj => by
        rw [List.length_map] at hj
        rw [hB.cell, List.getElem?_eq_getElem (by rw [List.length_map]; omega)]; rfl) (fun j _ => hB.frozen _) (byt_one _)
    refine wpList_plain hgd fun K hK => ?_
    unfold Oper.wp
    rw [List.length_map] at hrun
    have hb := Blk.setCells ((bs.take n).map byt) off w (L.map byt) hB (by rw [List.length_map, List.length_map]; omega)
    have hfin := h ((bs.take n).length : Int) (w.setCells p off ((bs.take n).map byt)) (by
      rw [List.length_map] at hb
      rw [List.map_append, List.map_append, List.map_drop, show (L.take off).map byt = (L.map byt).take off from List.map_take]
      exact hb) (Fx.setCells (S := One p) p rfl _ _ _)
    generalize w.setCells p off ((bs.take n).map byt) = w' at hrun hfin
    generalize (bs.take n).length = q at hrun hfin
    simp [execOp, ho, resolve, invoke, builtin, hd, hx, hrun, Result.andThen]
    exact hK _ _ hfin

/-- What serves as the key. -/
def kk (key : List UInt8) : List UInt8 := if 64 < key.length then sumOf key else key
/-- The key's block. -/
def kb (key : List UInt8) : List UInt8 := kk key ++ List.replicate (64 - (kk key).length) 0
theorem kk_length (key : List UInt8) : (kk key).length ≤ 64 := by
  unfold kk
  split
  · rw [sumOf_length]; decide
  · omega
theorem kb_length (key : List UInt8) : (kb key).length = 64 := by
  have := kk_length key
  unfold kb
  rw [List.length_append, List.length_replicate]; omega
/-- The digest of a text under a key. -/
def macOf (key m : List UInt8) : List UInt8 := sumOf (xr 92 (kb key) ++ sumOf (xr 54 (kb key) ++ m))
theorem macOf_length (key m : List UInt8) : (macOf key m).length = 32 := sumOf_length _

theorem zero35 (w : World) : (zeroValue 31).run Tryd.prog w = .ok (.agg (z64b.map byt).toArray) w := by
  rw [Tryd.zeroValue31]; rfl

theorem parts_new (W : World) (ps : List (Value × List UInt8)) (h : ∀ p ∈ ps, Has W p.1 p.2) :
    Parts (W.alloc (.cells (ps.map (·.1)).toArray 40)) (.slice (some ⟨W.heap.size, 0, none⟩) ps.length ps.length) ps := by
  refine .inr ⟨_, _, rfl, Nat.le_refl _, fun i p hp => ?_⟩
  rw [add_plain]
  refine ⟨?_, (h p (List.mem_of_getElem? hp)).below (below_new W _)⟩
  rw [(Blk.new W (ps.map (·.1)) 40).cell, List.getElem?_map, hp]; rfl

theorem sum_new (W : World) (ps : List (Value × List UInt8)) (M : List UInt8) (h : ∀ p ∈ ps, Has W p.1 p.2) (hK : Kst W) (hM : ps.flatMap (·.2) = M) (hn : M.length ≤ 1152921504606846976) (hl : ps.length ≤ 1000) :
    Calls Tryd.prog 60 #[.slice (some ⟨W.heap.size, 0, none⟩) ps.length ps.length] (W.alloc (.cells (ps.map (·.1)).toArray 40)) fun e w' => e = .returned (.agg ((sumOf M).map byt).toArray) ∧ Below W.heap.size W w' := by
  subst hM
  refine (sum_any _ ps _ (parts_new W ps h) (hK.below (below_new W _) hK.lt) hn (by omega)).mono fun e w' ⟨h1, h2⟩ => ⟨h1, (below_new W _).trans (h2.mono (below_new W _).size)⟩

theorem sum_at (W : World) (n : Nat) (hW : n = W.heap.size) (ps : List (Value × List UInt8)) (M : List UInt8) (h : ∀ p ∈ ps, Has W p.1 p.2) (hK : Kst W) (hM : ps.flatMap (·.2) = M) (hn : M.length ≤ 1152921504606846976) (hl : ps.length ≤ 1000) :
    Calls Tryd.prog 60 #[.slice (some ⟨n, 0, none⟩) ps.length ps.length] (W.alloc (.cells (ps.map (·.1)).toArray 40)) fun e w' => e = .returned (.agg ((sumOf M).map byt).toArray) ∧ Below W.heap.size W w' := by
  subst hW
  exact sum_new W ps M h hK hM hn hl

theorem one_all {W : World} {v : Value} {bs : List UInt8} (h : Has W v bs) : ∀ p ∈ [(v, bs)], Has W p.1 p.2 := by
  intro p hp
  simp only [List.mem_cons, List.not_mem_nil, or_false] at hp
  subst hp
  exact h

theorem kb_of (K : List UInt8) (h : K.length ≤ 64) : z64b.take 0 ++ K.take 64 ++ z64b.drop (0 + (K.take 64).length) = K ++ List.replicate (64 - K.length) 0 := by
  rw [List.take_of_length_le h, List.take_zero, List.nil_append, Nat.zero_add, z64b, List.drop_replicate]

set_option maxHeartbeats 2000000 in
set_option maxRecDepth 100000 in
theorem key_any (v : Value) (key : List UInt8) (w : World) (hv : Has w v key) (hn : key.length ≤ 1152921504606846976) (hK : Kst w) :
    Calls Tryd.prog 42 #[v] w fun e w' => e = .returned (.agg ((kb key).map byt).toArray) ∧ Below w.heap.size w w' := by
  obtain ⟨ao, cap, rfl⟩ := hv.slice
  have HV := hide hv
  have HK := hide hK
  have HN := hide hn
  have hlen := hv.len
  have hkb := kb_length key
  have hsz : (Tryd.prog.info? 31).map (·.size) = some ((kb key).map byt).toArray.size := info42 _ hkb
  have h64 : (((kb key).map byt).toArray.size) = (((kb key).map byt).toArray.size) := rfl
  clear hv hK hn
  by_cases hlt : 64 < key.length
  · have hz : (64 : Int) < (key.length : Int) := by omega
    have hkk : Hid (kk key = sumOf key) := by unfold kk; rw [if_pos hlt]; exact rfl
    have hs24 := info24 (sumOf key) (sumOf_length key)
    go_enter Tryd.func42, Tryd.ntmps42
    go_wp2_with (first
      | (refine wpList_newAt rfl 31 rfl (z64b.map byt) zero35 w.heap.size rfl ?_)
      | fail)
    have hw0 : Hid (Below w.heap.size w (w.alloc (.cells (z64b.map byt).toArray 31))) := below_new w _
    have hz0 : Hid (w.heap.size + 1 = (w.alloc (.cells (z64b.map byt).toArray 31)).heap.size) := by show _ = _; simp
    have hb0 : Hid (Blk (w.alloc (.cells (z64b.map byt).toArray 31)) w.heap.size (z64b.map byt) 31) := Blk.new w _ _
    generalize w.alloc (.cells (z64b.map byt).toArray 31) = w0 at hw0 hz0 hb0 ⊢
    refine (sum_at w0 (w.heap.size + 1) hz0.out [(Value.slice ao key.length cap, key)] key (one_all (HV.out.below hw0.out)) (HK.out.below hw0.out HK.out.lt) (by simp) HN.out (by simp)).mono ?_
    rintro e w1 ⟨rfl, hb1⟩
    have HB1 := hide hb1
    clear hb1
    have hD32 := hide (sumOf_length key)
    generalize sumOf key = D at hkk hs24 hD32 ⊢
    have hbl1 : Hid (Blk w1 w.heap.size (z64b.map byt) 31) := hb0.out.below HB1.out hb0.out.lt
    have hbe1 : Hid (Below w.heap.size w w1) := hw0.out.trans (HB1.out.mono hw0.out.size)
    have hB2 : Hid (Blk ((w1.alloc (.cells (z32.map byt).toArray 57)).setRow w1.heap.size ((D).map byt).toArray) w.heap.size (z64b.map byt) 31) := (hbl1.out.alloc _).setRowOther _ _ (by have := hbl1.out.lt; omega)
    have hH2 : Hid (Has ((w1.alloc (.cells (z32.map byt).toArray 57)).setRow w1.heap.size ((D).map byt).toArray) (.slice (some ⟨w1.heap.size, 0, none⟩) 32 32) (D)) := ((Blk.new w1 (z32.map byt) 57).setRow ((D).map byt)).has 32 hD32.out
    have HBE : Hid (Below w.heap.size w ((w1.alloc (.cells (z32.map byt).toArray 57)).setRow w1.heap.size ((D).map byt).toArray)) := below_setRow (hbe1.out.alloc (by have := hbl1.out.lt; omega) _) _ _ (by have := hbl1.out.lt; omega)
    have HLEN : Hid ((D).length ≤ 64) := by show _ ≤ _; rw [hD32.out]; decide
    go_wp2_with (first
      | (refine wpList_newAt rfl 57 rfl (z32.map byt) zero24 w1.heap.size rfl ?_)
      | (refine wpList_store_row rfl 57 (.tmp 3) (.tmp 9) rfl w1.heap.size ((D).map byt).toArray rfl rfl 57 (z32.map byt).toArray (Blk.new w1 _ _) hs24 (by rw [List.size_toArray, List.size_toArray, List.length_map, List.length_map, hD32.out]; rfl) (byts_one _) ?_)
      | (refine wpList_cpb rfl (.tmp 11) (.tmp 12) rfl w.heap.size 0 64 64 rfl (.slice (some ⟨w1.heap.size, 0, none⟩) 32 32) (D) rfl hH2.out z64b 31 hB2.out (by rw [z64b_length]; decide) ?_; intro q wc hbc hfc; have hfin : Hid (Blk wc w.heap.size ((kb key).map byt) 31) := hide (by rw [kb_of _ HLEN.out, ← hkk.out] at hbc; exact hbc); clear hbc)
      | (refine wpList_load_row rfl 31 (.tmp 2) rfl w.heap.size rfl 31 ((kb key).map byt).toArray (0, 0) _ hfin.out Tryd.underlying31 rfl hsz ?_)
      | (refine wpList_store_row rfl 31 (.tmp 2) (.tmp 14) rfl w.heap.size ((kb key).map byt).toArray rfl rfl 31 ((kb key).map byt).toArray hfin.out hsz rfl (byts_one _) ?_)
      | fail)
    refine bodyPost_ret (v := .agg ((kb key).map byt).toArray) ?_ rfl ⟨rfl, below_setRow (HBE.out.trans (hfc.below (fun k hk (e : k = w.heap.size) => by omega) HBE.out.size)) _ _ (Nat.le_refl _)⟩
    exact results_cell_row Tryd.results42 _ _ w.heap.size 31 _ (0, 0) _ rfl (hfin.out.setRow _) Tryd.underlying31 rfl hsz
  · have hz : ¬ (64 : Int) < (key.length : Int) := by omega
    have hkk : Hid (kk key = key) := by unfold kk; rw [if_neg hlt]; exact rfl
    have hB2 : Hid (Blk (w.alloc (.cells (z64b.map byt).toArray 31)) w.heap.size (z64b.map byt) 31) := Blk.new w _ _
    have hH2 : Hid (Has (w.alloc (.cells (z64b.map byt).toArray 31)) (.slice ao key.length cap) key) := HV.out.below (below_new w _)
    have HBE : Hid (Below w.heap.size w (w.alloc (.cells (z64b.map byt).toArray 31))) := below_new w _
    have HLEN : Hid (key.length ≤ 64) := by show _ ≤ _; omega
    go_enter Tryd.func42, Tryd.ntmps42
    go_wp2_with (first
      | (refine wpList_newAt rfl 31 rfl (z64b.map byt) zero35 w.heap.size rfl ?_)
      | (refine wpList_cpb rfl (.tmp 11) (.tmp 12) rfl w.heap.size 0 64 64 rfl (.slice ao key.length cap) key rfl hH2.out z64b 31 hB2.out (by rw [z64b_length]; decide) ?_; intro q wc hbc hfc; have hfin : Hid (Blk wc w.heap.size ((kb key).map byt) 31) := hide (by rw [kb_of _ HLEN.out, ← hkk.out] at hbc; exact hbc); clear hbc)
      | (refine wpList_load_row rfl 31 (.tmp 2) rfl w.heap.size rfl 31 ((kb key).map byt).toArray (0, 0) _ hfin.out Tryd.underlying31 rfl hsz ?_)
      | (refine wpList_store_row rfl 31 (.tmp 2) (.tmp 14) rfl w.heap.size ((kb key).map byt).toArray rfl rfl 31 ((kb key).map byt).toArray hfin.out hsz rfl (byts_one _) ?_)
      | fail)
    refine bodyPost_ret (v := .agg ((kb key).map byt).toArray) ?_ rfl ⟨rfl, below_setRow (HBE.out.trans (hfc.below (fun k hk (e : k = w.heap.size) => by omega) HBE.out.size)) _ _ (Nat.le_refl _)⟩
    exact results_cell_row Tryd.results42 _ _ w.heap.size 31 _ (0, 0) _ rfl (hfin.out.setRow _) Tryd.underlying31 rfl hsz

/-- The blocks of 'Mac': its result, and the key's block at b. -/
structure Mc (w x : World) (b : Nat) (K : List UInt8) : Prop where
  re : Blk x w.heap.size (z32.map byt) 57
  bl : Blk x b (K.map byt) 31
  be : Below w.heap.size w x
  lt : w.heap.size < b
theorem Mc.below {w x y : World} {b : Nat} {K : List UInt8} (h : Mc w x b K) (hb : Below x.heap.size x y) : Mc w y b K :=
  ⟨h.re.below hb h.re.lt, h.bl.below hb h.bl.lt, h.be.trans (hb.mono h.be.size), h.lt⟩
theorem Mc.fx {w x y : World} {b g : Nat} {K : List UInt8} (h : Mc w x b K) (hf : Fx (One g) x y) (hg : b < g) : Mc w y b K :=
  ⟨h.re.fx hf (fun e : w.heap.size = g => by have := h.lt; omega), h.bl.fx hf (fun e : b = g => by omega), h.be.trans (hf.below (fun j hj (e : j = g) => by have := h.lt; omega) h.be.size), h.lt⟩

theorem key_is (v : Value) (key KB : List UInt8) (hKB : kb key = KB) (w : World) (hv : Has w v key) (hn : key.length ≤ 1152921504606846976) (hK : Kst w) :
    Calls Tryd.prog 42 #[v] w fun e w' => e = .returned (.agg (KB.map byt).toArray) ∧ Below w.heap.size w w' := by
  subst hKB
  exact key_any v key w hv hn hK
theorem hsum_is (p : Nat) (m D : List UInt8) (hD : sumOf m = D) (w : World) (hH : HAt w p m) (hK : Kst w) (hn : m.length ≤ 1152921504606846976) :
    Calls Tryd.prog 45 #[.pointer (some ⟨p, 0, none⟩)] w fun e w' => e = .returned (.agg (D.map byt).toArray) ∧ Below w.heap.size w w' := by
  subst hD
  exact hsum_any p m w hH hK hn
theorem begun_is (b m : List UInt8) (hb : b.length = 64) (x : UInt8) (n : Int) (hx : (x.toNat : Int) = n) (hm : xr x b = m) (w : World) (hK : Kst w) :
    Calls Tryd.prog 43 #[.agg (b.map byt).toArray, .int .u8 n] w fun e w' => ∃ g, e = .returned (.pointer (some ⟨g, 0, none⟩)) ∧ w.heap.size ≤ g ∧ HAt w' g m ∧ Below w.heap.size w w' := by
  subst hm hx
  exact begun_any b hb x w hK

set_option maxHeartbeats 400000 in
set_option maxRecDepth 100000 in
theorem mac_parts (vk v : Value) (key M KB D1 D2 : List UInt8) (hKB : kb key = KB) (ps : List (Value × List UInt8)) (hM : ps.flatMap (·.2) = M) (hD1 : sumOf (xr 54 KB ++ M) = D1) (hD2 : sumOf (xr 92 KB ++ D1) = D2)
    (w : World) (hk : Has w vk key) (hP : Parts w v ps) (hK : Kst w) (hn : key.length ≤ 1152921504606846976) (hm : M.length ≤ 1000000000000000000) (hl : ps.length ≤ 1000000) :
    Calls Tryd.prog 29 #[vk, v] w fun e w' => e = .returned (.agg (D2.map byt).toArray) ∧ Below w.heap.size w w' := by
  obtain ⟨ao, cap, rfl, hcell⟩ := hP.shape
  have h64 : KB.length = 64 := by rw [← hKB]; exact kb_length key
  have l1 : D1.length = 32 := by rw [← hD1]; exact sumOf_length _
  have l2 : D2.length = 32 := by rw [← hD2]; exact sumOf_length _
  obtain ⟨X1, hX1⟩ : ∃ X, xr 54 KB = X := ⟨_, rfl⟩
  obtain ⟨X2, hX2⟩ : ∃ X, xr 92 KB = X := ⟨_, rfl⟩
  have x1 : X1.length = 64 := by rw [← hX1, xr_length, h64]
  have x2 : X2.length = 64 := by rw [← hX2, xr_length, h64]
  rw [hX1] at hD1
  rw [hX2] at hD2
  have HC := hide hcell
  have HKY := hide hk
  have HK := hide hK
  have HN := hide hn
  have HMl := hide hm
  have HM := hide hM
  have HKB := hide hKB
  have HD1 := hide hD1
  have HD2 := hide hD2
  have HX1 := hide hX1
  have HX2 := hide hX2
  have L1 := hide l1
  have L2 := hide l2
  have XL1 := hide x1
  have XL2 := hide x2
  have H64 := hide h64
  have i35 := info42 KB h64
  have i42a := info24 D1 l1
  have i42b := info24 D2 l2
  clear hcell hk hK hn hm hM hKB hD1 hD2 hX1 hX2 l1 l2 x1 x2 h64 hP
  go_enter Tryd.func29, Tryd.ntmps29
  go_wp2_with (first
    | (refine wpList_newAt rfl 57 rfl (z32.map byt) zero24 w.heap.size rfl ?_)
    | (go_at_call 42; refine (key_is vk key KB HKB.out _ (HKY.out.below (below_new w _)) HN.out (HK.out.below (below_new w _) HK.out.lt)).mono ?_; rintro e w1 ⟨rfl, hb1⟩; have HB1 := hide hb1; clear hb1)
    | (refine wpList_newAt rfl 31 rfl (z64b.map byt) zero35 w1.heap.size rfl ?_)
    | (refine wpList_store_row rfl 31 (.tmp 5) (.tmp 12) rfl w1.heap.size (KB.map byt).toArray rfl rfl 31 (z64b.map byt).toArray (Blk.new w1 _ _) i35 (by rw [List.size_toArray, List.size_toArray, List.length_map, List.length_map, H64.out, z64b_length]) (byts_one _) ?_)
    | (refine wpList_load_row rfl 31 (.tmp 5) rfl w1.heap.size rfl 31 (KB.map byt).toArray (0, 0) _ ((Blk.new w1 (z64b.map byt) 31).setRow (KB.map byt)) Tryd.underlying31 rfl i35 ?_)
    | fail)
  have hMc : Hid (Mc w ((w1.alloc (.cells (z64b.map byt).toArray 31)).setRow w1.heap.size (KB.map byt).toArray) w1.heap.size KB) := by
    have hs := HB1.out.size
    have hs' : w.heap.size + 1 ≤ w1.heap.size := by simpa using hs
    have b0 : Blk w1 w.heap.size (z32.map byt) 57 := (Blk.new w _ _).below HB1.out (by simp)
    have be1 : Below w.heap.size w w1 := (below_new w _).trans (HB1.out.mono (by simp))
    exact ⟨(b0.alloc _).setRowOther _ _ (by omega), (Blk.new w1 _ _).setRow _, below_setRow (be1.alloc (by omega) _) _ _ (by omega), by omega⟩
  have hlt1 : Hid (w1.heap.size < ((w1.alloc (.cells (z64b.map byt).toArray 31)).setRow w1.heap.size (KB.map byt).toArray).heap.size) := hMc.out.bl.lt
  generalize (w1.alloc (.cells (z64b.map byt).toArray 31)).setRow w1.heap.size (KB.map byt).toArray = wa at hMc hlt1 ⊢
  generalize w1.heap.size = b at hMc hlt1 ⊢
  have KA : Hid (Kst wa) := HK.out.below hMc.out.be HK.out.lt
  refine (begun_is KB X1 H64.out 54 54 rfl HX1.out wa KA.out).mono ?_
  rintro e w2 ⟨g, rfl, hg2, hh2, hb2⟩
  have hG : Hid (b < g) := by show _ < _; have := hlt1.out; omega
  have HH2 := hide hh2
  have HM2 := hide (hMc.out.below hb2)
  have KA2 : Hid (Kst w2) := HK.out.below HM2.out.be HK.out.lt
  clear hg2 hh2 hb2
  go_wp2_with fail
  go_loopw [17] (fun i wr => ∃ k : Nat, k ≤ ps.length ∧ i = .int .i64 k ∧ Hid (HAt wr g (X1 ++ (ps.take k).flatMap (·.2))) ∧ Hid (Mc w wr b KB)) (fun i _ => ps.length - (intOf i).toNat)
  case atStart => exact ⟨0, by omega, rfl, by simpa using HH2, HM2⟩
  case round =>
    obtain ⟨k, hk, rfl, hy, hf⟩ := hrel
    have HK2 : Hid (Kst wr) := HK.out.below hf.out.be HK.out.lt
    by_cases hlt : k < ps.length
    · have hlz : (k : Int) < (ps.length : Int) := by omega
      obtain ⟨ad, rfl, hc, hh⟩ := HC.out k ps[k] (List.getElem?_eq_getElem hlt)
      have hc' : wr.cell? (ad.add k) = some ps[k].1 := (hf.out.be.cell (cell_lt hc)).trans hc
      have HHAS : Hid (Has wr ps[k].1 ps[k].2) := hh.below hf.out.be
      have HNE := hide (has_lt hh g (by have := hG.out; have := hf.out.lt; omega))
      have HF := hide (flat_take ps k hlt)
      have HLn : Hid ((X1 ++ (ps.take k).flatMap (·.2)).length + ps[k].2.length ≤ 4611686018427387904) := by
        have e1 := flat_take ps k hlt
        have e2 := flat_len ps (k + 1)
        have := HMl.out
        rw [e1, List.length_append, HM.out] at e2
        show _ ≤ _
        rw [List.length_append, XL1.out]
        omega
      clear hc hh
      generalize ps[k].2 = py at *
      generalize ps[k].1 = pv at *
      go_wp2_with (go_at_call 44; refine (write_any g _ py pv _ hy.out HHAS.out HNE.out HK2.out (by have := hG.out; omega) HLn.out).mono ?_; rintro e w3 ⟨rfl, hH3, hF3⟩; have H3 := hide hH3; have F3 := hide hF3; clear hH3 hF3)
      go_roundw
      case rel => exact ⟨k + 1, by omega, by go_num, by rw [HF.out, ← List.append_assoc]; exact H3, hide (hf.out.fx F3.out hG.out)⟩
      case measure => simp [intOf]; omega
    · obtain rfl : k = ps.length := by omega
      rw [List.take_length, HM.out] at hy
      have HL1 : Hid ((X1 ++ M).length ≤ 1152921504606846976) := by
        have := HMl.out
        show _ ≤ _
        rw [List.length_append, XL1.out]; omega
      have hbl := hf.out.bl
      have HWE : ∀ x : World, Hid (Below wr.heap.size wr x) → Hid (Blk ((x.alloc (.cells (z32.map byt).toArray 57)).setRow x.heap.size (D1.map byt).toArray) b (KB.map byt) 31) := fun x hx =>
        hide (((hf.out.below hx.out).bl.alloc _).setRowOther _ _ (by have := (hf.out.below hx.out).bl.lt; omega))
      clear hbl
      go_wp2_with (first
        | (go_at_call 45; refine (hsum_is g (X1 ++ M) D1 HD1.out _ hy.out HK2.out HL1.out).mono ?_; rintro e w4 ⟨rfl, hb4⟩; have HB4 := hide hb4; clear hb4)
        | (refine wpList_newAt rfl 57 rfl (z32.map byt) zero24 w4.heap.size rfl ?_)
        | (refine wpList_store_row rfl 57 (.tmp 9) (.tmp 26) rfl w4.heap.size (D1.map byt).toArray rfl rfl 57 (z32.map byt).toArray (Blk.new w4 _ _) i42a (by rw [List.size_toArray, List.size_toArray, List.length_map, List.length_map, L1.out]; rfl) (byts_one _) ?_)
        | (refine wpList_load_row rfl 31 (.tmp 5) rfl b rfl 31 (KB.map byt).toArray (0, 0) _ (HWE w4 HB4).out Tryd.underlying31 rfl i35 ?_)
        | fail)
      have M5 : Hid (Mc w ((w4.alloc (.cells (z32.map byt).toArray 57)).setRow w4.heap.size (D1.map byt).toArray) b KB) := by
        have m4 := hf.out.below HB4.out
        have l4 := m4.bl.lt
        have l5 := m4.lt
        exact ⟨(m4.re.alloc _).setRowOther _ _ (by omega), (m4.bl.alloc _).setRowOther _ _ (by omega), below_setRow (m4.be.alloc (by omega) _) _ _ (by omega), l5⟩
      have D5 : Hid (Blk ((w4.alloc (.cells (z32.map byt).toArray 57)).setRow w4.heap.size (D1.map byt).toArray) w4.heap.size (D1.map byt) 57) := (Blk.new w4 _ _).setRow _
      have B5 : Hid (b < w4.heap.size) := by have := (hf.out.below HB4.out).bl.lt; exact this
      generalize (w4.alloc (.cells (z32.map byt).toArray 57)).setRow w4.heap.size (D1.map byt).toArray = w5 at M5 D5 ⊢
      generalize w4.heap.size = d at D5 B5 ⊢
      have K5 : Hid (Kst w5) := HK.out.below M5.out.be HK.out.lt
      refine (begun_is KB X2 H64.out 92 92 rfl HX2.out w5 K5.out).mono ?_
      rintro e w6 ⟨g2, rfl, hg6, hh6, hb6⟩
      have l5 := D5.out.lt
      have H6 := hide hh6
      have M6 := hide (M5.out.below hb6)
      have D6 := hide (D5.out.below hb6 l5)
      have G6 : Hid (d < g2) := by show _ < _; omega
      have K6 : Hid (Kst w6) := HK.out.below M6.out.be HK.out.lt
      clear hg6 hh6 hb6 l5
      go_wp2_with fail
      refine (write_any g2 X2 D1 (.slice (some ⟨d, 0, none⟩) 32 32) w6 H6.out (D6.out.has 32 L1.out) (.inr (fun e => by simp [Value.ownBlock] at e; have := G6.out; omega)) K6.out (by have := G6.out; omega) (by rw [XL2.out, L1.out]; decide)).mono ?_
      rintro e w7 ⟨rfl, hh7, hf7⟩
      have H7 := hide hh7
      have M7 := hide (M6.out.fx hf7 (by have := G6.out; have := B5.out; omega))
      have K7 : Hid (Kst w7) := HK.out.below M7.out.be HK.out.lt
      clear hh7 hf7
      go_wp2_with (first
        | (go_at_call 45; refine (hsum_is g2 (X2 ++ D1) D2 HD2.out _ H7.out K7.out (by rw [List.length_append, XL2.out, L1.out]; decide)).mono ?_; rintro e w8 ⟨rfl, hb8⟩; have HB8 := hide hb8; clear hb8)
        | (refine wpList_store_row rfl 57 (.tmp 4) (.tmp 33) rfl w.heap.size (D2.map byt).toArray rfl rfl 57 (z32.map byt).toArray (M7.out.below HB8.out).re i42b (by rw [List.size_toArray, List.size_toArray, List.length_map, List.length_map, L2.out]; rfl) (byts_one _) ?_)
        | fail)
      have M8 := M7.out.below HB8.out
      refine bodyPost_ret (v := .agg (D2.map byt).toArray) ?_ rfl ⟨rfl, below_setRow M8.be _ _ (Nat.le_refl _)⟩
      exact results_cell_row Tryd.results29 _ _ w.heap.size 57 _ (0, 0) _ rfl (M8.re.setRow _) Tryd.underlying57 rfl i42b

/-- 'Mac' of any parts. -/
theorem mac_any (vk v : Value) (key M : List UInt8) (ps : List (Value × List UInt8)) (hM : ps.flatMap (·.2) = M)
    (w : World) (hk : Has w vk key) (hP : Parts w v ps) (hK : Kst w) (hn : key.length ≤ 1152921504606846976) (hm : M.length ≤ 1000000000000000000) (hl : ps.length ≤ 1000000) :
    Calls Tryd.prog 29 #[vk, v] w fun e w' => e = .returned (.agg ((macOf key M).map byt).toArray) ∧ Below w.heap.size w w' :=
  mac_parts vk v key M (kb key) _ _ rfl ps hM rfl rfl w hk hP hK hn hm hl

/-- 'Mac' of parts that are written out in the call. -/
theorem mac_at (W : World) (n : Nat) (hW : n = W.heap.size) (vk : Value) (key M D : List UInt8) (ps : List (Value × List UInt8)) (hM : ps.flatMap (·.2) = M) (hD : macOf key M = D)
    (hk : Has W vk key) (h : ∀ p ∈ ps, Has W p.1 p.2) (hK : Kst W) (hn : key.length ≤ 1152921504606846976) (hm : M.length ≤ 1000000000000000000) (hl : ps.length ≤ 1000) :
    Calls Tryd.prog 29 #[vk, .slice (some ⟨n, 0, none⟩) ps.length ps.length] (W.alloc (.cells (ps.map (·.1)).toArray 40)) fun e w' => e = .returned (.agg (D.map byt).toArray) ∧ Below W.heap.size W w' := by
  subst hW hD
  exact (mac_any vk _ key M ps hM _ (hk.below (below_new W _)) (parts_new W ps h) (hK.below (below_new W _) hK.lt) hn hm (by omega)).mono fun e w' ⟨h1, h2⟩ => ⟨h1, (below_new W _).trans (h2.mono (below_new W _).size)⟩
end Go.Proofs.YtoceepmehmacbaaDoor
