import Derived.Test.YthlpfpggjkocmaaDp
set_option linter.unusedVariables false
set_option linter.unusedSimpArgs false
namespace Go.Proofs.Ythlpfpggjkocmaa
open Go.RowKit

theorem build38z (W : World) : (Instr.build 88 #[]).run Try.prog W = .ok (.agg (lossC (.slice none 0 0) 0 0).toArray) W := by kernel_rfl
theorem info38 (v : Value) (t o : Int) : (Try.prog.info? 88).map (·.size) = some (lossC v t o).length := by kernel_rfl
theorem info38A (v : Value) (t o : Int) : (Try.prog.info? 88).map (·.size) = some (lossC v t o).toArray.size := by kernel_rfl
theorem lossC_oneZ : (lossC (.slice none 0 0) 0 0).toArray.all (·.oneCell') = true := all_oneCell_toArray fun v hv => by
  simp only [lossC, List.mem_cons, List.not_mem_nil, or_false] at hv
  rcases hv with rfl | rfl | rfl <;> rfl
set_option maxRecDepth 100000 in
set_option maxHeartbeats 1000000 in
theorem disarm_any {w : World} {p gi n gn left calls : Nat} {vp vk : Value} {torn off : Int} {down : Bool} (h : Blk w p (dvC gi n vp gn left vk torn off down calls) 90) :
    Calls Try.prog 81 #[.pointer (some ⟨p, 0, none⟩)] w fun e w' => e = .returned (.tuple #[]) ∧ Fx (One p) w w' ∧ Blk w' p (dvC gi n vp gn 0 (.slice none 0 0) 0 0 down calls) 90 := by
  have H := hide h
  have hfz := h.frozen 3
  have hold := (h.cell 3).trans (show (dvC gi n vp gn left vk torn off down calls)[3]? = some (.int .i64 (left : Int)) from rfl)
  have h2 : Blk (w.setCell ⟨p, 3, none⟩ (.int .i64 0)) p (dvC gi n vp gn 0 vk torn off down calls) 90 := h.set 3 _
  have hb := build38z
  have f2 : Fx (One p) w (w.setCell ⟨p, 3, none⟩ (.int .i64 0)) := Fx.setCell _ _ _ _ rfl
  have hi := info38A (.slice none 0 0) 0 0
  have h1 := lossC_oneZ
  have hset : ∀ W, Blk W p (dvC gi n vp gn 0 vk torn off down calls) 90 → Blk (W.setCells p 4 (lossC (.slice none 0 0) 0 0)) p (dvC gi n vp gn 0 (.slice none 0 0) 0 0 down calls) 90 := fun W hW => Blk.setCells (lossC (.slice none 0 0) 0 0) 4 W _ hW (by simp [lossC, dvC])
  have hth : ∀ W, Blk W p (dvC gi n vp gn 0 vk torn off down calls) 90 → W.there p 4 3 := fun W hW j hj => by
    refine ⟨?_, hW.frozen _⟩
    rw [hW.cell]
    match j, hj with
    | 0, _ => rfl
    | 1, _ => rfl
    | 2, _ => rfl
  have H2 := hide h2
  have HS := hide hset
  have HT := hide hth
  have F2 := hide f2
  clear h h2 hset hth f2
  clear hb
  go_enter Try.func81, Try.ntmps81
  go_wp2_with (first
    | (refine wpList_store_mid rfl 88 (.tmp 8) (.tmp 6) rfl p 4 (lossC (.slice none 0 0) 0 0).toArray rfl rfl (HT.out _ H2.out) hi h1 ?_; rw [show (lossC (.slice none 0 0) 0 0).toArray.toList = lossC (.slice none 0 0) 0 0 from rfl])
    | fail)
  go_end0
  exact ⟨rfl, F2.out.and (Fx.setCells (S := One p) p rfl _ _ _), HS.out _ H2.out⟩

/-- The image behind t writes, of each so many first bytes. -/
def imgT (f : Nat → Nat) (pen : List (Nat × List UInt8)) (img : List UInt8) : Nat → List UInt8
  | 0 => img
  | t + 1 => settleL (imgT f pen img t) (pen.getD t (0, [])).1 (f t) (pen.getD t (0, [])).2
theorem imgT_length (f : Nat → Nat) (pen : List (Nat × List UInt8)) (img : List UInt8) (n : Nat) (hl : img.length = n * 512) (hf : ∀ k, f k ≤ 512) (hp : ∀ x ∈ pen, x.1 < n ∧ x.2.length = 512) : ∀ t, t ≤ pen.length → (imgT f pen img t).length = n * 512
  | 0, _ => hl
  | t + 1, ht => by
    have ih := imgT_length f pen img n hl hf hp t (by omega)
    have hx := hp (pen[t]'(by omega)) (List.getElem_mem _)
    have e : pen.getD t (0, []) = pen[t]'(by omega) := by rw [List.getD_eq_getElem?_getD, List.getElem?_eq_getElem (by omega)]; rfl
    rw [imgT, e, settle_length _ _ _ n _ ih hx.1 (hf t) hx.2, ih]
/-- Behind a change of the image. -/
theorem Dev.setImg {w w' : World} {L : Lay} {D : Dv} (h : Dev w L D) (hf : Fx (One L.gi) w w') (img : List UInt8) (hI : Blk w' L.gi (img.map byt) 5) (hl : img.length = D.n * 512) : Dev w' L { D with img := img } :=
  { dev := h.dev.fx hf h.pi, img := hI, new := h.new.fx hf (Ne.symm h.inn), pen := ownsRow_fx h.pen hf (fun k hk e => (h.vpn k hk).2.1 e),
    bys := fun k g x h1 h2 => (h.bys k g x h1 h2).fx hf (fun e => (h.gsn g (List.mem_of_getElem? h1)).2.1 e), gsl := h.gsl, kp := h.kp.fx hf (fun k hk e => (h.vkn k hk).2.1 e),
    ok := ⟨h.ok.n1, h.ok.n2, hl, h.ok.sec, h.ok.few, h.ok.cal⟩, pi := h.pi, pn := h.pn, inn := h.inn, vpn := h.vpn,
    vkn := fun k hk => ⟨(h.vkn k hk).1, (h.vkn k hk).2.1, (h.vkn k hk).2.2.1, Nat.lt_of_lt_of_le (h.vkn k hk).2.2.2 hf.size⟩,
    gsn := fun k hk => ⟨(h.gsn k hk).1, (h.gsn k hk).2.1, (h.gsn k hk).2.2.1, Nat.lt_of_lt_of_le (h.gsn k hk).2.2.2 hf.size⟩ }
/-- A crash with that loss. -/
def crashD (D : Dv) (ks : List (BitVec 64)) (torn off : Int) : Dv := ⟨D.n, imgT (survN ks torn off) D.pen D.img D.pen.length, [], 0, [], 0, 0, true, D.calls⟩
def bareL (L : Lay) : Lay := ⟨L.p, L.gi, L.gn, .slice none 0 0, .slice none 0 0, []⟩
theorem bare_own (L : Lay) (k : Nat) (h : (bareL L).F k) : L.F k := by
  rcases h with h | h | h | h | h | h
  · exact .inl h
  · exact .inr (.inl h)
  · exact .inr (.inr (.inl h))
  · simp [bareL, Value.ownBlock] at h
  · simp [bareL, Value.ownBlock] at h
  · simp [bareL] at h
/-- Three blocks of a device. -/
abbrev Three (L : Lay) : Nat → Prop := fun k => k = L.gi ∨ k = L.gn ∨ k = L.p
theorem three_F (L : Lay) (k : Nat) (h : Three L k) : L.F k := by
  rcases h with h | h | h
  · exact .inr (.inl h)
  · exact .inr (.inr (.inl h))
  · exact .inl h
theorem pwC_at (s g : Nat) : (pwC s (bV g))[0]? = some (.int .i64 (s : Int)) := rfl
theorem Blk.hasB {w : World} {g : Nat} {b : List UInt8} (h : Blk w g (b.map byt) 5) (hb : b.length = 512) : Has w (bV g) b := by
  refine .inr ⟨⟨g, 0, none⟩, 512, by rw [hb]; rfl, by omega, fun i u hu => ?_⟩
  rw [add_plain, h.cell, List.getElem?_map, hu]; rfl

set_option maxRecDepth 100000 in
set_option maxHeartbeats 4000000 in
theorem giveUp_any {w : World} {L : Lay} {D : Dv} (h : Dev w L D) (v : Value) (ks : List (BitVec 64)) (torn off : Int) (hv : Has64 w v ks) (hvn : ∀ k, v.ownBlock = some k → k ≠ L.gi) :
    Calls Try.prog 76 #[.pointer (some ⟨L.p, 0, none⟩), .agg (lossC v torn off).toArray] w fun e w' => e = .returned (.tuple #[]) ∧ Fx (Three L) w w' ∧ Dev w' (bareL L) (crashD D ks torn off) := by
  obtain ⟨g0, hg0⟩ : ∃ g, w.heap.size = g := ⟨_, rfl⟩
  have be0 : Below w.heap.size w (w.alloc (.cells (lossC v torn off).toArray 88)) := below_new w _
  have b0 : Blk (w.alloc (.cells (lossC v torn off).toArray 88)) g0 (lossC v torn off) 88 := Blk.newAt hg0
  have hgi : L.gi < g0 := by rw [← hg0]; exact h.img.lt
  replace h := h.below be0
  replace hv := hv.fx (Fx.of_below (S := fun _ => False) be0) (fun _ _ h => h)
  obtain ⟨w0, hw0⟩ : ∃ w0, w.alloc (.cells (lossC v torn off).toArray 88) = w0 := ⟨_, rfl⟩
  rw [hw0] at be0 b0 h hv
  have H := hide h
  have hlen := pen_len h.pen
  have hc1 := h.c1
  have few := h.ok.few
  obtain ⟨m, hm⟩ : ∃ m, D.pen.length = m := ⟨_, rfl⟩
  rw [hm] at hlen few
  have BE0 := hide be0
  have HV := hide hv
  have B0 := hide b0
  obtain ⟨f, hf⟩ : ∃ f, survN ks torn off = f := ⟨_, rfl⟩
  have HSV : Hid (∀ (k : Nat) (W : World), k < 1000000000000 → Has64 W v ks → Calls Try.prog 80 #[.agg (lossC v torn off).toArray, .int .i64 (k : Int)] W fun e w' => e = .returned (.int .i64 (f k : Int)) ∧ Below W.heap.size W w') := hide (fun k W hk hh => by rw [← hf]; exact surviving_any v ks torn off k hk W hh)
  have hfle : Hid (∀ k, f k ≤ 512) := hide (fun k => by rw [← hf]; exact surv_le ks torn off k)
  have HIL := hide (fun t ht => imgT_length f D.pen D.img D.n h.ok.len hfle.out h.ok.sec t ht)
  clear h hv be0 b0
  go_enter Try.func76, Try.ntmps76
  go_wp2_with (first
    | (refine wpList_boxAt rfl 88 (.tmp 1) rfl (lossC v torn off) rfl g0 hg0 ?_; rw [hw0])
    | fail)
  go_loopw [11] (fun i wr => ∃ t : Nat, t ≤ m ∧ i = .int .i64 t ∧ Hid (Fx (One L.gi) w0 wr ∧ Blk wr L.gi ((imgT f D.pen D.img t).map byt) 5)) (fun i _ => m - (intOf i).toNat)
  case atStart => exact ⟨0, by omega, rfl, hide ⟨Fx.refl _ _, H.out.img⟩⟩
  case round =>
    obtain ⟨t, ht, rfl, hs⟩ := hrel
    by_cases hlt : t < m
    · have hlz : (t : Int) < (m : Int) := by omega
      obtain ⟨x, hx⟩ : ∃ x, D.pen[t]? = some x := ⟨D.pen[t]'(by omega), List.getElem?_eq_getElem _⟩
      obtain ⟨gb, hgb⟩ : ∃ g, L.gs[t]? = some g := ⟨L.gs[t]'(by rw [H.out.gsl]; omega), List.getElem?_eq_getElem _⟩
      obtain ⟨g, hgo, hix, hrg⟩ := pen_item H.out.pen t gb x hgb hx
      obtain ⟨n1, n2, n3, _, _⟩ := H.out.vpn g hgo
      obtain ⟨hsec, hxb⟩ := H.out.ok.sec x (List.mem_of_getElem? hx)
      have hbb := H.out.bys t gb x hgb hx
      have hgbn := (H.out.gsn gb (List.mem_of_getElem? hgb)).2.1
      have RG : Hid (wr.rangeAt g (t * 2) (pwC x.1 (bV gb))) := hide (fun j v hj => hs.out.1.cell (hrg j v hj) (fun e => n2 e))
      have hget : D.pen.getD t (0, []) = x := by rw [List.getD_eq_getElem?_getD, hx]; rfl
      obtain ⟨gw, hgw⟩ : ∃ gw, wr.heap.size = gw := ⟨_, rfl⟩
      go_upto_region 4 with (first
        | (refine wpList_load_mid rfl 92 (.tmp 14) rfl g (t * 2) rfl (pwC x.1 (bV gb)) _ RG.out Try.underlying92 rfl (info78 _ _) ?_)
        | (refine wpList_newAt rfl 92 rfl _ zero78 gw hgw ?_)
        | (refine wpList_store_row rfl 92 (.tmp 5) (.tmp 15) rfl gw (pwC x.1 (bV gb)).toArray rfl rfl 92 _ (Blk.newAt hgw) (info78A _ _) rfl (pwC_one _ _) ?_))
      have be1 : Below wr.heap.size wr ((wr.alloc (.cells [Value.int .i64 0, .slice none 0 0].toArray 92)).setRow gw (pwC x.1 (bV gb)).toArray) := below_setRow (below_new wr _) _ _ (by omega)
      have bw : Blk ((wr.alloc (.cells [Value.int .i64 0, .slice none 0 0].toArray 92)).setRow gw (pwC x.1 (bV gb)).toArray) gw (pwC x.1 (bV gb)) 92 := (Blk.newAt hgw).setRow _
      generalize (wr.alloc (.cells [Value.int .i64 0, .slice none 0 0].toArray 92)).setRow gw (pwC x.1 (bV gb)).toArray = w1 at be1 bw ⊢
      have hf1 : Fx (One L.gi) w0 w1 := hs.out.1.then_below be1
      have hI1 : Blk w1 L.gi ((imgT f D.pen D.img t).map byt) 5 := hs.out.2.on be1
      have FW : ∀ W, Below w1.heap.size w1 W → Fx (One L.gi) w0 W := fun W hW => hf1.then_below hW
      refine reg_rest 5 1 (by kernel_rfl) rfl (by kernel_rfl) ?_
      simp only [List.take_succ_cons, List.take_zero]
      refine wpLex_cons2 _ (uni_val (by rfl) (Op.move (Operand.tmp 0)) rfl (.pointer (some ⟨L.p, 0, none⟩)) (fun o' ho W hW => by go_simp)) (by simp only [Act.put, List.setIfInBounds_toArray, List.set_cons_zero, List.set_cons_succ]; rfl) ?_
      refine wpLex_cons2 _ (uni_row rfl 92 (.tmp 5) rfl gw (pwC x.1 (bV gb)) 92 rfl (fun W hW => bw.on hW) Try.underlying92 rfl (info78 _ _)) (by simp only [Act.put, List.setIfInBounds_toArray, List.set_cons_zero, List.set_cons_succ]; rfl) ?_
      refine wpLex_cons2 _ (uni_row rfl 88 (.tmp 3) rfl g0 (lossC v torn off) 88 rfl (fun W hW => B0.out.fx (FW W hW) (fun e => by have : g0 = L.gi := e; omega)) Try.underlying88 rfl (info38 _ _ _)) (by simp only [Act.put, List.setIfInBounds_toArray, List.set_cons_zero, List.set_cons_succ]; rfl) ?_
      refine wpLex_cons2 _ (uni_val (by rfl) (Op.move (Operand.tmp 4)) rfl (.int .i64 (t : Int)) (fun o' ho W hW => by go_simp)) (by simp only [Act.put, List.setIfInBounds_toArray, List.set_cons_zero, List.set_cons_succ]; rfl) ?_
      refine wpLex_cons2 _ (uni_callF (by rfl) 80 [Operand.tmp 18, Operand.tmp 19] #[88, 3] rfl [.agg (lossC v torn off).toArray, .int .i64 (t : Int)] (.int .i64 (f t : Int)) rfl enter80 (fun W hW => HSV.out t W (by omega) (HV.out.fx (FW W hW) (fun k hk e => hvn k hk e)))) (by simp only [Act.put, List.setIfInBounds_toArray, List.set_cons_zero, List.set_cons_succ]; rfl) ?_
      intro W hW
      simp only [List.drop_succ_cons, List.drop_zero]
      have hst := hide (settle_any (w := W) (L := L) (n := D.n) (img := imgT f D.pen D.img t) ((FW W hW).cell H.out.c0 (fun e => H.out.pi e)) (hI1.on hW) (HIL.out t (by omega)) H.out.ok.n2 x.1 (f t) hsec (hfle.out t) (bV gb) x.2 hxb (Blk.hasB (hbb.fx (FW W hW) (fun e => hgbn e)) hxb))
      have F1 := hide (FW W hW)
      clear hW FW hI1 hf1 be1 bw hs RG hrg hbb
      go_wp2_with (first
        | (go_at_call 69; refine hst.out.mono ?_; rintro e w3 ⟨rfl, hp, hq⟩; have F3 := hide hp; have I3 := hide hq; clear hp hq)
        | fail)
      go_roundw
      case rel =>
        refine ⟨t + 1, by omega, by go_num, hide ⟨F1.out.and F3.out, ?_⟩⟩
        rw [imgT, hget]; exact I3.out
      case measure => simp [intOf]; omega
    · obtain rfl : t = m := by omega
      have hD : Dev wr L { D with img := imgT f D.pen D.img t } := H.out.setImg hs.out.1 _ hs.out.2 (HIL.out t (by omega))
      have hdr := hide (drop_any hD)
      have HS := hide hs.out.1
      have HI := hide hs.out.2
      clear hs hD
      go_wp2_with (first
        | (go_at_call 70; refine hdr.out.mono ?_; rintro e w3 ⟨rfl, hp, hq, hr⟩; have F3 := hide hp; have N3 := hide hq; have hda := hide (disarm_any hr); clear hp hq hr)
        | (go_at_call 81; refine hda.out.mono ?_; rintro e w4 ⟨rfl, hp, hq⟩; have F4 := hide hp; have D4 := hide hq; have hfz := hq.frozen 7; have hold := (hq.cell 7).trans (show _ = some (.bool D.down) from rfl); clear hp hq)
        | fail)
      go_end0
      have D5 := D4.out.set 7 (.bool true)
      have F5 : Fx (One L.p) w4 (w4.setCell ⟨L.p, 7, none⟩ (.bool true)) := Fx.setCell _ _ _ _ rfl
      have FF : Fx (Three L) wr (w4.setCell ⟨L.p, 7, none⟩ (.bool true)) := ((F3.out.mono (fun i _ h => h.elim (fun h => .inr (.inl h)) (fun h => .inr (.inr h)))).and (F4.out.mono (fun i _ h => .inr (.inr h)))).and (F5.mono (fun i _ h => .inr (.inr h)))
      have FA : Fx (Three L) w (w4.setCell ⟨L.p, 7, none⟩ (.bool true)) := ((Fx.of_below BE0.out).and (HS.out.mono (fun i _ h => .inl h))).and FF
      refine ⟨rfl, FA, ?_⟩
      refine { dev := D5, img := ?_, new := ?_, pen := ⟨rfl, .inl ⟨rfl, rfl⟩⟩, bys := fun k g x h => by simp [bareL] at h, gsl := rfl, kp := Has64.nil _, ok := ⟨H.out.ok.n1, H.out.ok.n2, ?_, fun x hx => by simp [crashD] at hx, by simp [crashD], H.out.ok.cal⟩, pi := H.out.pi, pn := H.out.pn, inn := H.out.inn, vpn := fun k hk => by simp [bareL, Value.ownBlock] at hk, vkn := fun k hk => by simp [bareL, Value.ownBlock] at hk, gsn := fun k hk => by simp [bareL] at hk }
      · have e := ((HI.out.fx F3.out (fun e => e.elim (fun e => H.out.inn e) (fun e => H.out.pi e.symm))).fx F4.out (fun e => H.out.pi (Eq.symm e))).fx F5 (fun e => H.out.pi (Eq.symm e))
        show Blk _ L.gi ((imgT (survN ks torn off) D.pen D.img D.pen.length).map byt) 5
        rw [hf, hm]; exact e
      · have e := (N3.out.fx F4.out (fun e => H.out.pn (Eq.symm e))).fx F5 (fun e => H.out.pn (Eq.symm e))
        exact e
      · show (imgT (survN ks torn off) D.pen D.img D.pen.length).length = _
        rw [hf, hm]; exact HIL.out t (by omega)
end Go.Proofs.Ythlpfpggjkocmaa
