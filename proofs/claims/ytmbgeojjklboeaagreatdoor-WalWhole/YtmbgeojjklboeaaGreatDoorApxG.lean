import Derived.Test.YtmbgeojjklboeaaGreatDoorDpG
import Derived.Laws.OwnMore
set_option linter.unusedVariables false
set_option linter.unusedSimpArgs false
namespace Go.Proofs.YtmbgeojjklboeaaGreatDoor
open Go.RowKit

theorem build38z (W : World) : (Instr.build 63 #[]).run Tryz.prog W = .ok (.agg (lossC (.slice none 0 0) 0 0).toArray) W := by kernel_rfl
theorem info38 (v : Value) (t o : Int) : (Tryz.prog.info? 63).map (·.size) = some (lossC v t o).length := by kernel_rfl
theorem info38A (v : Value) (t o : Int) : (Tryz.prog.info? 63).map (·.size) = some (lossC v t o).toArray.size := by kernel_rfl
theorem lossC_oneZ : (lossC (.slice none 0 0) 0 0).toArray.all (·.oneCell') = true := all_oneCell_toArray fun v hv => by
  simp only [lossC, List.mem_cons, List.not_mem_nil, or_false] at hv
  rcases hv with rfl | rfl | rfl <;> rfl
set_option maxRecDepth 100000 in
set_option maxHeartbeats 1000000 in
theorem disarm_any {w : World} {p gi n gn left calls : Nat} {vp vk : Value} {torn off : Int} {down : Bool} (h : Blk w p (dvC gi n vp gn left vk torn off down calls) 102) :
    Calls Tryz.prog 52 #[.pointer (some ⟨p, 0, none⟩)] w fun e w' => e = .returned (.tuple #[]) ∧ Fx (One p) w w' ∧ Blk w' p (dvC gi n vp gn 0 (.slice none 0 0) 0 0 down calls) 102 := by
  have H := hide h
  have hfz := h.frozen 3
  have hold := (h.cell 3).trans (show (dvC gi n vp gn left vk torn off down calls)[3]? = some (.int .i64 (left : Int)) from rfl)
  have h2 : Blk (w.setCell ⟨p, 3, none⟩ (.int .i64 0)) p (dvC gi n vp gn 0 vk torn off down calls) 102 := h.set 3 _
  have hb := build38z
  have f2 : Fx (One p) w (w.setCell ⟨p, 3, none⟩ (.int .i64 0)) := Fx.setCell _ _ _ _ rfl
  have hi := info38A (.slice none 0 0) 0 0
  have h1 := lossC_oneZ
  have hset : ∀ W, Blk W p (dvC gi n vp gn 0 vk torn off down calls) 102 → Blk (W.setCells p 4 (lossC (.slice none 0 0) 0 0)) p (dvC gi n vp gn 0 (.slice none 0 0) 0 0 down calls) 102 := fun W hW => Blk.setCells (lossC (.slice none 0 0) 0 0) 4 W _ hW (by simp [lossC, dvC])
  have hth : ∀ W, Blk W p (dvC gi n vp gn 0 vk torn off down calls) 102 → W.there p 4 3 := fun W hW j hj => by
    refine ⟨?_, hW.frozen _⟩
    rw [hW.cell]
    match j, hj with
    | 0, _ => rfl
    | 1, _ => rfl
    | 2, _ => rfl
  have H2 := hide h2
  have HS := hide hset
  have HT := hide hth
  have F2 := hide f2
  clear h h2 hset hth f2
  clear hb
  go_enter Tryz.func52, Tryz.ntmps52
  go_wp2_with (first
    | (refine wpList_store_mid rfl 63 (.tmp 8) (.tmp 6) rfl p 4 (lossC (.slice none 0 0) 0 0).toArray rfl rfl (HT.out _ H2.out) hi h1 ?_; rw [show (lossC (.slice none 0 0) 0 0).toArray.toList = lossC (.slice none 0 0) 0 0 from rfl])
    | fail)
  go_end0
  exact ⟨rfl, F2.out.and (Fx.setCells (S := One p) p rfl _ _ _), HS.out _ H2.out⟩

/-- The image behind t writes, of each so many first bytes. -/
def imgT (f : Nat → Nat) (pen : List (Nat × List UInt8)) (img : List UInt8) : Nat → List UInt8
  | 0 => img
  | t + 1 => settleL (imgT f pen img t) (pen.getD t (0, [])).1 (f t) (pen.getD t (0, [])).2
theorem imgT_length (f : Nat → Nat) (pen : List (Nat × List UInt8)) (img : List UInt8) (n : Nat) (hl : img.length = n * 512) (hf : ∀ k, f k ≤ 512) (hp : ∀ x ∈ pen, x.1 < n ∧ x.2.length = 512) : ∀ t, t ≤ pen.length → (imgT f pen img t).length = n * 512
  | 0, _ => hl
  | t + 1, ht => by
    have ih := imgT_length f pen img n hl hf hp t (by omega)
    have hx := hp (pen[t]'(by omega)) (List.getElem_mem _)
    have e : pen.getD t (0, []) = pen[t]'(by omega) := by rw [List.getD_eq_getElem?_getD, List.getElem?_eq_getElem (by omega)]; rfl
    rw [imgT, e, settle_length _ _ _ n _ ih hx.1 (hf t) hx.2, ih]
/-- Behind a change of the image. -/
theorem Dev.setImg {w w' : World} {L : Lay} {D : Dv} (h : Dev w L D) (hf : Fx (One L.gi) w w') (img : List UInt8) (hI : Blk w' L.gi (img.map byt) 5) (hl : img.length = D.n * 512) : Dev w' L { D with img := img } :=
  { dev := h.dev.fx hf h.pi, img := hI, new := h.new.fx hf (Ne.symm h.inn), pen := ownsRow_fx h.pen hf (fun k hk e => (h.vpn k hk).2.1 e),
    bys := fun k g x h1 h2 => (h.bys k g x h1 h2).fx hf (fun e => (h.gsn g (List.mem_of_getElem? h1)).2.1 e), gsl := h.gsl, kp := h.kp.fx hf (fun k hk e => (h.vkn k hk).2.1 e),
    ok := ⟨h.ok.n1, h.ok.n2, hl, h.ok.sec, h.ok.few, h.ok.cal⟩, pi := h.pi, pn := h.pn, inn := h.inn, vpn := h.vpn,
    vkn := fun k hk => ⟨(h.vkn k hk).1, (h.vkn k hk).2.1, (h.vkn k hk).2.2.1, Nat.lt_of_lt_of_le (h.vkn k hk).2.2.2 hf.size⟩,
    gsn := fun k hk => ⟨(h.gsn k hk).1, (h.gsn k hk).2.1, (h.gsn k hk).2.2.1, Nat.lt_of_lt_of_le (h.gsn k hk).2.2.2 hf.size⟩ }
/-- A crash with that loss. -/
def crashD (D : Dv) (ks : List (BitVec 64)) (torn off : Int) : Dv := ⟨D.n, imgT (survN ks torn off) D.pen D.img D.pen.length, [], 0, [], 0, 0, true, D.calls⟩
def bareL (L : Lay) : Lay := ⟨L.p, L.gi, L.gn, .slice none 0 0, .slice none 0 0, []⟩
theorem bare_own (L : Lay) (k : Nat) (h : (bareL L).F k) : L.F k := by
  rcases h with h | h | h | h | h | h
  · exact .inl h
  · exact .inr (.inl h)
  · exact .inr (.inr (.inl h))
  · simp [bareL, Value.ownBlock] at h
  · simp [bareL, Value.ownBlock] at h
  · simp [bareL] at h
/-- Three blocks of a device. -/
abbrev Three (L : Lay) : Nat → Prop := fun k => k = L.gi ∨ k = L.gn ∨ k = L.p
theorem three_F (L : Lay) (k : Nat) (h : Three L k) : L.F k := by
  rcases h with h | h | h
  · exact .inr (.inl h)
  · exact .inr (.inr (.inl h))
  · exact .inl h
theorem Blk.hasB {w : World} {g : Nat} {b : List UInt8} (h : Blk w g (b.map byt) 5) (hb : b.length = 512) : Has w (bV g) b := by
  refine .inr ⟨⟨g, 0, none⟩, 512, by rw [hb]; rfl, by omega, fun i u hu => ?_⟩
  rw [add_plain, h.cell, List.getElem?_map, hu]; rfl

set_option maxRecDepth 100000 in
set_option maxHeartbeats 4000000 in
theorem giveUp_any {w : World} {L : Lay} {D : Dv} (h : Dev w L D) (v : Value) (ks : List (BitVec 64)) (torn off : Int) (hv : Has64 w v ks) (hvn : ∀ k, v.ownBlock = some k → k ≠ L.gi) :
    Calls Tryz.prog 100 #[.pointer (some ⟨L.p, 0, none⟩), .agg (lossC v torn off).toArray] w fun e w' => e = .returned (.tuple #[]) ∧ Fx (Three L) w w' ∧ Dev w' (bareL L) (crashD D ks torn off) := by
  obtain ⟨g0, hg0⟩ : ∃ g, w.heap.size = g := ⟨_, rfl⟩
  have be0 : Below w.heap.size w (w.alloc (.cells (lossC v torn off).toArray 63)) := below_new w _
  have b0 : Blk (w.alloc (.cells (lossC v torn off).toArray 63)) g0 (lossC v torn off) 63 := Blk.newAt hg0
  have hgi : L.gi < g0 := by rw [← hg0]; exact h.img.lt
  replace h := h.below be0
  replace hv := hv.fx (Fx.of_below (S := fun _ => False) be0) (fun _ _ h => h)
  obtain ⟨w0, hw0⟩ : ∃ w0, w.alloc (.cells (lossC v torn off).toArray 63) = w0 := ⟨_, rfl⟩
  rw [hw0] at be0 b0 h hv
  have H := hide h
  have hlen := pen_len h.pen
  have hc1 := h.c1
  have few := h.ok.few
  obtain ⟨m, hm⟩ : ∃ m, D.pen.length = m := ⟨_, rfl⟩
  rw [hm] at hlen few
  have BE0 := hide be0
  have HV := hide hv
  have B0 := hide b0
  obtain ⟨f, hf⟩ : ∃ f, survN ks torn off = f := ⟨_, rfl⟩
  have HSV : Hid (∀ (k : Nat) (W : World), k < 1000000000000 → Has64 W v ks → Calls Tryz.prog 106 #[.agg (lossC v torn off).toArray, .int .i64 (k : Int)] W fun e w' => e = .returned (.int .i64 (f k : Int)) ∧ Below W.heap.size W w') := hide (fun k W hk hh => by rw [← hf]; exact surviving_any v ks torn off k hk W hh)
  have hfle : Hid (∀ k, f k ≤ 512) := hide (fun k => by rw [← hf]; exact surv_le ks torn off k)
  have HIL := hide (fun t ht => imgT_length f D.pen D.img D.n h.ok.len hfle.out h.ok.sec t ht)
  clear h hv be0 b0
  go_enter Tryz.func100, Tryz.ntmps100
  go_wp2_with (first
    | (refine wpList_boxAt rfl 63 (.tmp 1) rfl (lossC v torn off) rfl g0 hg0 ?_; rw [hw0])
    | fail)
  go_loopw [11] (fun i wr => ∃ t : Nat, t ≤ m ∧ i = .int .i64 t ∧ Hid (Fx (One L.gi) w0 wr ∧ Blk wr L.gi ((imgT f D.pen D.img t).map byt) 5)) (fun i _ => m - (intOf i).toNat)
  case atStart => exact ⟨0, by omega, rfl, hide ⟨Fx.refl _ _, H.out.img⟩⟩
  case round =>
    obtain ⟨t, ht, rfl, hs⟩ := hrel
    by_cases hlt : t < m
    · have hlz : (t : Int) < (m : Int) := by omega
      obtain ⟨x, hx⟩ : ∃ x, D.pen[t]? = some x := ⟨D.pen[t]'(by omega), List.getElem?_eq_getElem _⟩
      obtain ⟨gb, hgb⟩ : ∃ g, L.gs[t]? = some g := ⟨L.gs[t]'(by rw [H.out.gsl]; omega), List.getElem?_eq_getElem _⟩
      obtain ⟨g, hgo, hix, hrg⟩ := pen_item H.out.pen t gb x hgb hx
      obtain ⟨n1, n2, n3, _, _⟩ := H.out.vpn g hgo
      obtain ⟨hsec, hxb⟩ := H.out.ok.sec x (List.mem_of_getElem? hx)
      have hbb := H.out.bys t gb x hgb hx
      have hgbn := (H.out.gsn gb (List.mem_of_getElem? hgb)).2.1
      have RG : Hid (wr.rangeAt g (t * 2) (pwC x.1 (bV gb))) := hide (fun j v hj => hs.out.1.cell (hrg j v hj) (fun e => n2 e))
      have hget : D.pen.getD t (0, []) = x := by rw [List.getD_eq_getElem?_getD, hx]; rfl
      obtain ⟨gw, hgw⟩ : ∃ gw, wr.heap.size = gw := ⟨_, rfl⟩
      go_upto_region 4 with (first
        | (refine wpList_load_mid rfl 121 (.tmp 14) rfl g (t * 2) rfl (pwC x.1 (bV gb)) _ RG.out Tryz.underlying121 rfl (info78 _ _) ?_)
        | (refine wpList_newAt rfl 121 rfl _ zero78 gw hgw ?_)
        | (refine wpList_store_row rfl 121 (.tmp 5) (.tmp 15) rfl gw (pwC x.1 (bV gb)).toArray rfl rfl 121 _ (Blk.newAt hgw) (info78A _ _) rfl (pwC_one _ _) ?_))
      have be1 : Below wr.heap.size wr ((wr.alloc (.cells [Value.int .i64 0, .slice none 0 0].toArray 121)).setRow gw (pwC x.1 (bV gb)).toArray) := below_setRow (below_new wr _) _ _ (by omega)
      have bw : Blk ((wr.alloc (.cells [Value.int .i64 0, .slice none 0 0].toArray 121)).setRow gw (pwC x.1 (bV gb)).toArray) gw (pwC x.1 (bV gb)) 121 := (Blk.newAt hgw).setRow _
      generalize (wr.alloc (.cells [Value.int .i64 0, .slice none 0 0].toArray 121)).setRow gw (pwC x.1 (bV gb)).toArray = w1 at be1 bw ⊢
      have hf1 : Fx (One L.gi) w0 w1 := hs.out.1.then_below be1
      have hI1 : Blk w1 L.gi ((imgT f D.pen D.img t).map byt) 5 := hs.out.2.on be1
      have FW : ∀ W, Below w1.heap.size w1 W → Fx (One L.gi) w0 W := fun W hW => hf1.then_below hW
      refine reg_rest 5 1 (by kernel_rfl) rfl (by kernel_rfl) ?_
      simp only [List.take_succ_cons, List.take_zero]
      refine wpLex_cons2 _ (uni_val (by rfl) (Op.move (Operand.tmp 0)) rfl (.pointer (some ⟨L.p, 0, none⟩)) (fun o' ho W hW => by go_simp)) (by simp only [Act.put, List.setIfInBounds_toArray, List.set_cons_zero, List.set_cons_succ]; rfl) ?_; refine wpLex_cons2 _ (uni_row rfl 121 (.tmp 5) rfl gw (pwC x.1 (bV gb)) 121 rfl (fun W hW => bw.on hW) Tryz.underlying121 rfl (info78 _ _)) (by simp only [Act.put, List.setIfInBounds_toArray, List.set_cons_zero, List.set_cons_succ]; rfl) ?_; refine wpLex_cons2 _ (uni_row rfl 63 (.tmp 3) rfl g0 (lossC v torn off) 63 rfl (fun W hW => B0.out.fx (FW W hW) (fun e => by have : g0 = L.gi := e; omega)) Tryz.underlying63 rfl (info38 _ _ _)) (by simp only [Act.put, List.setIfInBounds_toArray, List.set_cons_zero, List.set_cons_succ]; rfl) ?_; refine wpLex_cons2 _ (uni_val (by rfl) (Op.move (Operand.tmp 4)) rfl (.int .i64 (t : Int)) (fun o' ho W hW => by go_simp)) (by simp only [Act.put, List.setIfInBounds_toArray, List.set_cons_zero, List.set_cons_succ]; rfl) ?_; refine wpLex_cons2 _ (uni_callF (by rfl) 106 [Operand.tmp 18, Operand.tmp 19] #[63, 3] rfl [.agg (lossC v torn off).toArray, .int .i64 (t : Int)] (.int .i64 (f t : Int)) rfl enter106 (fun W hW => HSV.out t W (by omega) (HV.out.fx (FW W hW) (fun k hk e => hvn k hk e)))) (by simp only [Act.put, List.setIfInBounds_toArray, List.set_cons_zero, List.set_cons_succ]; rfl) ?_
      intro W hW
      simp only [List.drop_succ_cons, List.drop_zero]
      have hst := hide (settle_any (w := W) (L := L) (n := D.n) (img := imgT f D.pen D.img t) ((FW W hW).cell H.out.c0 (fun e => H.out.pi e)) (hI1.on hW) (HIL.out t (by omega)) H.out.ok.n2 x.1 (f t) hsec (hfle.out t) (bV gb) x.2 hxb (Blk.hasB (hbb.fx (FW W hW) (fun e => hgbn e)) hxb))
      have F1 := hide (FW W hW)
      clear hW FW hI1 hf1 be1 bw hs RG hrg hbb
      go_wp2_with (first
        | (go_at_call 88; refine hst.out.mono ?_; rintro e w3 ⟨rfl, hp, hq⟩; have F3 := hide hp; have I3 := hide hq; clear hp hq)
        | fail)
      go_roundw
      case rel =>
        refine ⟨t + 1, by omega, by go_num, hide ⟨F1.out.and F3.out, ?_⟩⟩
        rw [imgT, hget]; exact I3.out
      case measure => simp [intOf]; omega
    · obtain rfl : t = m := by omega
      have hD : Dev wr L { D with img := imgT f D.pen D.img t } := H.out.setImg hs.out.1 _ hs.out.2 (HIL.out t (by omega))
      have hdr := hide (drop_any hD)
      have HS := hide hs.out.1
      have HI := hide hs.out.2
      clear hs hD
      go_wp2_with (first
        | (go_at_call 89; refine hdr.out.mono ?_; rintro e w3 ⟨rfl, hp, hq, hr⟩; have F3 := hide hp; have N3 := hide hq; have hda := hide (disarm_any hr); clear hp hq hr)
        | (go_at_call 52; refine hda.out.mono ?_; rintro e w4 ⟨rfl, hp, hq⟩; have F4 := hide hp; have D4 := hide hq; have hfz := hq.frozen 7; have hold := (hq.cell 7).trans (show _ = some (.bool D.down) from rfl); clear hp hq)
        | fail)
      go_end0
      have D5 := D4.out.set 7 (.bool true)
      have F5 : Fx (One L.p) w4 (w4.setCell ⟨L.p, 7, none⟩ (.bool true)) := Fx.setCell _ _ _ _ rfl
      have FF : Fx (Three L) wr (w4.setCell ⟨L.p, 7, none⟩ (.bool true)) := ((F3.out.mono (fun i _ h => h.elim (fun h => .inr (.inl h)) (fun h => .inr (.inr h)))).and (F4.out.mono (fun i _ h => .inr (.inr h)))).and (F5.mono (fun i _ h => .inr (.inr h)))
      have FA : Fx (Three L) w (w4.setCell ⟨L.p, 7, none⟩ (.bool true)) := ((Fx.of_below BE0.out).and (HS.out.mono (fun i _ h => .inl h))).and FF
      refine ⟨rfl, FA, ?_⟩; refine { dev := D5, img := ?_, new := ?_, pen := ⟨rfl, .inl ⟨rfl, rfl⟩⟩, bys := fun k g x h => by simp [bareL] at h, gsl := rfl, kp := Has64.nil _, ok := ⟨H.out.ok.n1, H.out.ok.n2, ?_, fun x hx => by simp [crashD] at hx, by simp [crashD], H.out.ok.cal⟩, pi := H.out.pi, pn := H.out.pn, inn := H.out.inn, vpn := fun k hk => by simp [bareL, Value.ownBlock] at hk, vkn := fun k hk => by simp [bareL, Value.ownBlock] at hk, gsn := fun k hk => by simp [bareL] at hk }
      · have e := ((HI.out.fx F3.out (fun e => e.elim (fun e => H.out.inn e) (fun e => H.out.pi e.symm))).fx F4.out (fun e => H.out.pi (Eq.symm e))).fx F5 (fun e => H.out.pi (Eq.symm e))
        show Blk _ L.gi ((imgT (survN ks torn off) D.pen D.img D.pen.length).map byt) 5
        rw [hf, hm]; exact e
      · have e := (N3.out.fx F4.out (fun e => H.out.pn (Eq.symm e))).fx F5 (fun e => H.out.pn (Eq.symm e))
        exact e
      · show (imgT (survN ks torn off) D.pen D.img D.pen.length).length = _
        rw [hf, hm]; exact HIL.out t (by omega)
end Go.Proofs.YtmbgeojjklboeaaGreatDoor

set_option linter.unusedVariables false
set_option linter.unusedSimpArgs false
namespace Go.Proofs.YtmbgeojjklboeaaGreatDoor
open Go.RowKit

theorem Dev.crash_turn {w w' : World} {L : Lay} (hf : Fx (Three L) w w') : Turn w w' L (bareL L) := ⟨hf.mono (fun i _ h => three_F L i h), fun k h => .inl (bare_own L k h), rfl⟩
theorem image_any {w : World} {L : Lay} {D : Dv} (h : Dev w L D) : Calls Tryz.prog 17 #[.pointer (some ⟨L.p, 0, none⟩)] w fun e w' =>
    e = .returned (.slice (some ⟨w.heap.size, 0, none⟩) D.img.length D.img.length) ∧ w' = w.alloc (.cells (D.img.map byt).toArray 5) := by
  have hc := h.c0
  have hi : Has w (.slice (some ⟨L.gi, 0, none⟩) (D.n * 512) (D.n * 512)) D.img := .inr ⟨⟨L.gi, 0, none⟩, D.n * 512, by rw [h.ok.len], by rw [h.ok.len]; omega, fun i u hu => by rw [add_plain, h.img.cell, List.getElem?_map, hu]; rfl⟩
  have hcp := hide (copied_any _ D.img (by have := h.ok.len; have := h.ok.n2; omega) w hi)
  clear h hi
  go_enter Tryz.func17, Tryz.ntmps17
  go_wp2_with (first
    | (go_at_call 51; refine hcp.out.mono ?_; rintro e w3 ⟨rfl, rfl⟩)
    | fail)
  go_ret
  exact ⟨rfl, rfl⟩
/-- One changing call more. -/
def tickD (D : Dv) : Dv := { D with calls := D.calls + 1, left := D.left - 1 }
def changedD (D : Dv) : Dv := if D.left = 1 then crashD { D with calls := D.calls + 1, left := 0 } D.keep D.torn D.off else tickD D
def changedE (D : Dv) : Int := if D.left = 1 then 80 else 0
def changedL (L : Lay) (D : Dv) : Lay := if D.left = 1 then bareL L else L
/-- Behind a change of the device's own block. -/
theorem Dev.setDev {w w' : World} {L : Lay} {D : Dv} (h : Dev w L D) (hf : Fx (One L.p) w w') (left calls : Nat) (hP : Blk w' L.p (dvC L.gi D.n L.vp L.gn left L.vk D.torn D.off D.down calls) 102) (hc : calls ≤ 1000000000000) : Dev w' L { D with left := left, calls := calls } :=
  { dev := hP, img := h.img.fx hf (Ne.symm h.pi), new := h.new.fx hf (Ne.symm h.pn), pen := ownsRow_fx h.pen hf (fun k hk e => (h.vpn k hk).1 e),
    bys := fun k g x h1 h2 => (h.bys k g x h1 h2).fx hf (fun e => (h.gsn g (List.mem_of_getElem? h1)).1 e), gsl := h.gsl, kp := h.kp.fx hf (fun k hk e => (h.vkn k hk).1 e),
    ok := ⟨h.ok.n1, h.ok.n2, h.ok.len, h.ok.sec, h.ok.few, hc⟩, pi := h.pi, pn := h.pn, inn := h.inn, vpn := h.vpn,
    vkn := fun k hk => ⟨(h.vkn k hk).1, (h.vkn k hk).2.1, (h.vkn k hk).2.2.1, Nat.lt_of_lt_of_le (h.vkn k hk).2.2.2 hf.size⟩,
    gsn := fun k hk => ⟨(h.gsn k hk).1, (h.gsn k hk).2.1, (h.gsn k hk).2.2.1, Nat.lt_of_lt_of_le (h.gsn k hk).2.2.2 hf.size⟩ }
theorem Turn.one {w w' : World} {L : Lay} (hf : Fx (One L.p) w w') : Turn w w' L L := ⟨hf.mono (fun i _ h => .inl h), fun k h => .inl h, rfl⟩
set_option maxRecDepth 100000 in
set_option maxHeartbeats 2000000 in
theorem changed_any {w : World} {L : Lay} {D : Dv} (h : Dev w L D) (hcal : D.calls < 1000000000000) (hleft : D.left < 9223372036854775808) : Calls Tryz.prog 87 #[.pointer (some ⟨L.p, 0, none⟩)] w fun e w' =>
    e = .returned (.int .i64 (changedE D)) ∧ Turn w w' L (changedL L D) ∧ Dev w' (changedL L D) (changedD D) := by
  have H := hide h
  have hc8 := h.c8
  have hf8 := h.dev.frozen 8
  have B1 : Blk (w.setCell ⟨L.p, 8, none⟩ (.int .i64 ((D.calls + 1 : Nat) : Int))) L.p (dvC L.gi D.n L.vp L.gn D.left L.vk D.torn D.off D.down (D.calls + 1)) 102 := h.dev.set 8 _
  have F1 : Fx (One L.p) w (w.setCell ⟨L.p, 8, none⟩ (.int .i64 ((D.calls + 1 : Nat) : Int))) := Fx.setCell _ _ _ _ rfl
  have e1 : wrap64 ((D.calls : Int) + 1) = ((D.calls + 1 : Nat) : Int) := by rw [IntWalk.wrap64_in _ (by omega)]; simp
  have e2 : (D.calls : Int) + 1 = ((D.calls + 1 : Nat) : Int) := by simp
  obtain ⟨C, hC⟩ : ∃ C, D.calls + 1 = C := ⟨_, rfl⟩
  rw [hC] at B1 F1 e1 e2
  have hC2 : C ≤ 1000000000000 := by omega
  have HC := hide hC
  clear hC
  obtain ⟨w1, hw1⟩ : ∃ w1, w.setCell ⟨L.p, 8, none⟩ (.int .i64 (C : Int)) = w1 := ⟨_, rfl⟩
  rw [hw1] at B1 F1
  have hc3 := (B1.cell 3).trans (show _ = some (.int .i64 (D.left : Int)) from rfl)
  have hf3 := B1.frozen 3
  have HB1 := hide B1
  have HF1 := hide F1
  clear B1 F1 h
  unfold changedE changedL changedD
  by_cases h0 : D.left = 0
  · have z0 : (D.left : Int) = 0 := by omega
    rw [if_neg (by omega), if_neg (by omega), if_neg (by omega)]
    go_enter Tryz.func87, Tryz.ntmps87
    go_wp2
    go_ret
    refine ⟨rfl, Turn.one HF1.out, ?_⟩
    have := H.out.setDev HF1.out D.left C HB1.out hC2
    rw [show tickD D = { D with left := D.left, calls := C } by unfold tickD; rw [HC.out, h0]]
    exact this
  · obtain ⟨l, hl⟩ : ∃ l, D.left = l + 1 := ⟨D.left - 1, by omega⟩
    rw [hl] at hc3
    have B2 : Blk (w1.setCell ⟨L.p, 3, none⟩ (.int .i64 (l : Int))) L.p (dvC L.gi D.n L.vp L.gn l L.vk D.torn D.off D.down C) 102 := HB1.out.set 3 _
    have F2 : Fx (One L.p) w (w1.setCell ⟨L.p, 3, none⟩ (.int .i64 (l : Int))) := HF1.out.and (Fx.setCell _ _ _ _ rfl)
    have n0 : ¬ ((l + 1 : Nat) : Int) = 0 := by omega
    have e3 : wrap64 (((l + 1 : Nat) : Int) - 1) = (l : Int) := by rw [IntWalk.wrap64_in _ (by omega)]; omega
    have e4 : ((l + 1 : Nat) : Int) - 1 = (l : Int) := by omega
    obtain ⟨l1, hl1⟩ : ∃ l1, l + 1 = l1 := ⟨_, rfl⟩
    rw [hl1] at hc3 n0 e3 e4
    obtain ⟨w2, hw2⟩ : ∃ w2, w1.setCell ⟨L.p, 3, none⟩ (.int .i64 (l : Int)) = w2 := ⟨_, rfl⟩
    rw [hw2] at B2 F2
    have hd3 := (B2.cell 3).trans (show _ = some (.int .i64 (l : Int)) from rfl)
    have D2 := hide (H.out.setDev F2 l C B2 hC2)
    have HF2 := hide F2
    have HB2 := hide B2
    clear B2 F2
    by_cases hz : l = 0
    · have hz2 : ¬ (0 : Int) < (l : Int) := by omega
      rw [if_pos (by omega), if_pos (by omega), if_pos (by omega)]
      have HZ := hide hz
      clear hz hl1 hl
      have hg := hide (giveUp_any D2.out L.vk D.keep D.torn D.off D2.out.kp (fun k hk => (H.out.vkn k hk).2.1))
      have R4 : Hid (w2.rangeAt L.p 4 (lossC L.vk D.torn D.off)) := hide (fun j v hj => by
        rw [HB2.out.cell, ← hj]
        have hj3 : j < 3 := by have := (List.getElem?_eq_some_iff.1 hj).1; simpa [lossC] using this
        match j, hj3 with
        | 0, _ => rfl
        | 1, _ => rfl
        | 2, _ => rfl)
      go_enter Tryz.func87, Tryz.ntmps87
      go_wp2_with (first
        | (refine wpList_load_mid rfl 63 (.tmp 30) rfl L.p 4 rfl (lossC L.vk D.torn D.off) _ R4.out Tryz.underlying63 rfl (info38 _ _ _) ?_)
        | (go_at_call 100; refine hg.out.mono ?_; rintro e w3 ⟨rfl, hp, hq⟩; have F3 := hide hp; have D3 := hide hq; clear hp hq)
        | fail)
      go_ret
      refine ⟨rfl, (Turn.one HF2.out).trans (Dev.crash_turn F3.out), ?_⟩
      rw [HC.out]
      have := D3.out
      rw [HZ.out] at this
      exact this
    · have hz2 : (0 : Int) < (l : Int) := by omega
      rw [if_neg (by omega), if_neg (by omega), if_neg (by omega)]
      clear hl1
      go_enter Tryz.func87, Tryz.ntmps87
      go_wp2
      go_ret
      refine ⟨rfl, Turn.one HF2.out, ?_⟩
      rw [show tickD D = { D with left := l, calls := C } by unfold tickD; rw [HC.out, hl, Nat.add_sub_cancel]]
      exact D2.out
end Go.Proofs.YtmbgeojjklboeaaGreatDoor

set_option linter.unusedVariables false
set_option linter.unusedSimpArgs false
namespace Go.Proofs.YtmbgeojjklboeaaGreatDoor
open Go.RowKit

/-- A row's new place: its old one, or a new block. -/
def Nw (w : World) (v v' : Value) : Prop := ∀ k, v'.ownBlock = some k → v.ownBlock = some k ∨ w.heap.size ≤ k
/-- 'append' to an owned row: what becomes of the row. -/
theorem run_appx (w : World) (t ty e : TypeId) (i : TypeInfo) (z : Value) (size bytes : Nat) (ht : Tryz.prog.underlying t = some (.slice e)) (hi : Tryz.prog.info? e = some i) (hz : i.zero = some z)
    (hsize : i.size = size) (hby : i.bytes = bytes) (hzs : z.cells.size = size) (hs0 : 0 < size) (v : Value) (n : Nat) (xs : List Value) (hown : w.ownsRow 0 e size v n xs)
    (a : Addr) (m c : Nat) (news : List Value) (hl : news.length = m * size) (hnews : ∀ j u, news[j]? = some u → w.cell? (a.add j) = some u) (h1 : ∀ u ∈ news, u.oneCell' = true)
    (hn : n + m ≤ 1000000000) (hby0 : bytes ≤ 64) :
    ∃ v' w', (Builtin.append_ #[t, t] ty #[v, .slice (some a) m c]).run Tryz.prog w = .ok v' w' ∧ w'.ownsRow 0 e size v' (n + m) (xs ++ news) ∧ w.grownBy w' v.ownBlock ∧ Nw w v v' := by
  have h63 : n + m ≤ maxLen := by unfold maxLen; omega
  have hb : (n + m) * bytes ≤ 140737488355328 := Nat.le_trans (Nat.mul_le_mul hn hby0) (by decide)
  obtain ⟨v', w', r1, r2, r3, r4⟩ := run_append_own (P := Tryz.prog) w 0 t ty e i z size bytes ht hi hz hsize hby hzs hs0 v n xs hown a m c news hl hnews h1 h63 hb (Nat.zero_le _)
  refine ⟨v', w', r1, r2, r3, ?_⟩
  have hown' := hown
  obtain ⟨hx, ⟨rfl, hz0⟩ | ⟨g, cp, cur, rfl, hg, hh2, hnc, hc, hs, htk⟩⟩ := hown'
  · have hnil : w.ownsRow w.heap.size e size (.slice none 0 0) n xs := ⟨hx, .inl ⟨rfl, hz0⟩⟩
    obtain ⟨v2, w2, q1, q2, q3, q4⟩ := run_append_own (P := Tryz.prog) w w.heap.size t ty e i z size bytes ht hi hz hsize hby hzs hs0 _ n xs hnil a m c news hl hnews h1 h63 hb (Nat.le_refl _)
    rw [r1] at q1
    simp only [Result.ok.injEq] at q1
    obtain ⟨rfl, rfl⟩ := q1
    intro k hk
    right
    obtain ⟨_, ⟨rfl, _⟩ | ⟨g, cap, cur, rfl, hg, _⟩⟩ := q2
    · cases hk
    · simp [Value.ownBlock] at hk; omega
  · by_cases hroom : n + m ≤ cp
    · obtain ⟨w2, q1, _⟩ := run_append_fits (P := Tryz.prog) w 0 t ty e i size ht hi hsize g n cp xs hown a m c news hl hnews h1 hroom
      rw [r1] at q1
      simp only [Result.ok.injEq] at q1
      obtain ⟨rfl, rfl⟩ := q1
      exact fun k hk => .inl hk
    · have hcap := nextcap_le (n + m) cp (by omega)
      have hfit : Builtin.nextslicecap (n + m) cp * i.bytes ≤ 281474976710656 := by
        rw [hby]
        refine Nat.le_trans (Nat.mul_le_mul (Nat.le_trans hcap (show (n + m) + ((n + m) + 768) / 4 ≤ 2000000000 by omega)) hby0) (by decide)
      have q1 := run_append_grow (P := Tryz.prog) w t ty e i z ht hi hz ⟨g, 0, none⟩ n cp xs (by rw [hsize]; exact hx) (World.ownsRow.cells hown (g := g) rfl) a m c news (by rw [hsize]; exact hl) hnews (by omega) (by omega) hfit
      rw [r1] at q1
      simp only [Result.ok.injEq] at q1
      obtain ⟨rfl, rfl⟩ := q1
      intro k hk
      simp [Value.ownBlock] at hk
      exact .inr (by omega)
theorem grown_fx {w w' : World} {v : Value} (h : w.grownBy w' v.ownBlock) : Fx (fun k => v.ownBlock = some k) w w' := by
  obtain ⟨h1, h2, h3, h4, h5⟩ := h
  exact ⟨h1, h2, h3, h4, fun k hk hn => h5 k hk (fun e => hn e.symm)⟩
end Go.Proofs.YtmbgeojjklboeaaGreatDoor
