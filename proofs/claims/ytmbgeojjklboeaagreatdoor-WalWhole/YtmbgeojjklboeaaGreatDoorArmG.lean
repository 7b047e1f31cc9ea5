import Derived.Test.YtmbgeojjklboeaaGreatDoorWr
set_option linter.unusedVariables false
set_option linter.unusedSimpArgs false
namespace Go.Proofs.YtmbgeojjklboeaaGreatDoor
open Go.RowKit

def dropL (L : Lay) : Lay := ⟨L.p, L.gi, L.gn, .slice none 0 0, L.vk, []⟩
theorem drop_own (L : Lay) (k : Nat) (h : (dropL L).F k) : L.F k := by
  rcases h with h | h | h | h | h | h
  · exact .inl h
  · exact .inr (.inl h)
  · exact .inr (.inr (.inl h))
  · simp [dropL, Value.ownBlock] at h
  · exact .inr (.inr (.inr (.inr (.inl h))))
  · simp [dropL] at h
/-- Behind dropPending. -/
theorem Dev.dropped {w w' : World} {L : Lay} {D : Dv} (h : Dev w L D) (hf : Fx (fun k => k = L.gn ∨ k = L.p) w w') (hN : Blk w' L.gn (nwC D.n (fun _ => 0)) 3) (hP : Blk w' L.p (dvC L.gi D.n (.slice none 0 0) L.gn D.left L.vk D.torn D.off D.down D.calls) 102) : Dev w' (dropL L) { D with pen := [] } :=
  { dev := hP, img := h.img.fx hf (fun e => e.elim (fun e => h.inn e) (fun e => h.pi (Eq.symm e))), new := hN, pen := ⟨rfl, .inl ⟨rfl, rfl⟩⟩, bys := fun k g x h1 => by simp [dropL] at h1, gsl := rfl,
    kp := h.kp.fx hf (fun k hk e => e.elim (fun e => (h.vkn k hk).2.2.1 e) (fun e => (h.vkn k hk).1 e)), ok := ⟨h.ok.n1, h.ok.n2, h.ok.len, fun x hx => by simp at hx, by simp, h.ok.cal⟩, pi := h.pi, pn := h.pn, inn := h.inn,
    vpn := fun k hk => by simp [dropL, Value.ownBlock] at hk, vkn := fun k hk => ⟨(h.vkn k hk).1, (h.vkn k hk).2.1, (h.vkn k hk).2.2.1, Nat.lt_of_lt_of_le (h.vkn k hk).2.2.2 hf.size⟩, gsn := fun k hk => by simp [dropL] at hk }
/-- All pending writes go to the image. -/
def flushD (D : Dv) : Dv := { tickD D with img := imgT (fun _ => 512) D.pen D.img D.pen.length, pen := [] }
set_option maxRecDepth 100000 in
set_option maxHeartbeats 1000000 in
theorem flush_crash {w : World} {L : Lay} {D : Dv} (h : Dev w L D) (hd : D.down = false) (hcal : D.calls < 1000000000000) (h1 : D.left = 1) : Calls Tryz.prog 76 #[.pointer (some ⟨L.p, 0, none⟩)] w fun e w' =>
    e = .returned (.int .i64 80) ∧ Turn w w' L (bareL L) ∧ Dev w' (bareL L) (changedD D) := by
  have hc := h.c7
  rw [hd] at hc
  have hch := hide (changed_any h hcal (by omega))
  rw [show changedE D = 80 from if_pos h1, show changedL L D = bareL L from if_pos h1] at hch
  clear h h1
  go_enter Tryz.func76, Tryz.ntmps76
  go_wp2_with (first
    | (go_at_call 87; refine hch.out.mono ?_; rintro e w6 ⟨rfl, hp, hq⟩; have T6 := hide hp; have D6 := hide hq; clear hp hq)
    | fail)
  go_ret
  exact ⟨rfl, T6.out, D6.out⟩

set_option maxRecDepth 100000 in
set_option maxHeartbeats 4000000 in
theorem flush_ok {w : World} {L : Lay} {D : Dv} (h : Dev w L D) (hd : D.down = false) (hcal : D.calls < 1000000000000) (hleft : D.left < 9223372036854775808) (h1 : D.left ≠ 1) : Calls Tryz.prog 76 #[.pointer (some ⟨L.p, 0, none⟩)] w fun e w' =>
    e = .returned (.int .i64 0) ∧ Turn w w' L (dropL L) ∧ Dev w' (dropL L) (flushD D) := by
  have hc := h.c7
  rw [hd] at hc
  have hch := hide (changed_any h hcal hleft)
  rw [show changedE D = 0 from if_neg h1, show changedL L D = L from if_neg h1, show changedD D = tickD D from if_neg h1] at hch
  have hpen : (tickD D).pen = D.pen := rfl
  have himg : (tickD D).img = D.img := rfl
  unfold flushD
  rw [← hpen, ← himg]
  obtain ⟨E, hE⟩ : ∃ E, tickD D = E := ⟨_, rfl⟩
  rw [hE] at hch ⊢
  clear hpen himg hE h h1
  go_enter Tryz.func76, Tryz.ntmps76
  go_upto_region 6 with (first
    | (go_at_call 87; refine hch.out.mono ?_; rintro e w0 ⟨rfl, hp, hq⟩; have T0 := hide hp; have H := hide hq; clear hp hq)
    | fail)
  clear hc hch
  have hlen := pen_len H.out.pen
  have hc1 := H.out.c1
  have few := H.out.ok.few
  obtain ⟨m, hm⟩ : ∃ m, E.pen.length = m := ⟨_, rfl⟩
  rw [hm] at hlen few
  have HIL := hide (fun t ht => imgT_length (fun _ => 512) E.pen E.img E.n H.out.ok.len (fun _ => Nat.le_refl _) H.out.ok.sec t ht)
  go_wp2
  go_loopw [20] (fun i wr => ∃ t : Nat, t ≤ m ∧ i = .int .i64 t ∧ Hid (Fx (One L.gi) w0 wr ∧ Blk wr L.gi ((imgT (fun _ => 512) E.pen E.img t).map byt) 5)) (fun i _ => m - (intOf i).toNat)
  case atStart => exact ⟨0, by omega, rfl, hide ⟨Fx.refl _ _, H.out.img⟩⟩
  case round =>
    obtain ⟨t, ht, rfl, hs⟩ := hrel
    by_cases hlt : t < m
    · have hlz : (t : Int) < (m : Int) := by omega
      obtain ⟨x, hx⟩ : ∃ x, E.pen[t]? = some x := ⟨E.pen[t]'(by omega), List.getElem?_eq_getElem _⟩
      obtain ⟨gb, hgb⟩ : ∃ g, L.gs[t]? = some g := ⟨L.gs[t]'(by rw [H.out.gsl]; omega), List.getElem?_eq_getElem _⟩
      obtain ⟨g, hgo, hix, hrg⟩ := pen_item H.out.pen t gb x hgb hx
      obtain ⟨n1, n2, n3, _, _⟩ := H.out.vpn g hgo
      obtain ⟨hsec, hxb⟩ := H.out.ok.sec x (List.mem_of_getElem? hx)
      have hbb := H.out.bys t gb x hgb hx
      have hgbn := (H.out.gsn gb (List.mem_of_getElem? hgb)).2.1
      have RG : Hid (wr.rangeAt g (t * 2) (pwC x.1 (bV gb))) := hide (fun j v hj => hs.out.1.cell (hrg j v hj) (fun e => n2 e))
      have hget : E.pen.getD t (0, []) = x := by rw [List.getD_eq_getElem?_getD, hx]; rfl
      obtain ⟨gw, hgw⟩ : ∃ gw, wr.heap.size = gw := ⟨_, rfl⟩
      go_upto_region 9 with (first
        | (refine wpList_load_mid rfl 121 (.tmp 22) rfl g (t * 2) rfl (pwC x.1 (bV gb)) _ RG.out Tryz.underlying121 rfl (info78 _ _) ?_)
        | (refine wpList_newAt rfl 121 rfl _ zero78 gw hgw ?_)
        | (refine wpList_store_row rfl 121 (.tmp 5) (.tmp 23) rfl gw (pwC x.1 (bV gb)).toArray rfl rfl 121 _ (Blk.newAt hgw) (info78A _ _) rfl (pwC_one _ _) ?_))
      have be1 : Below wr.heap.size wr ((wr.alloc (.cells [Value.int .i64 0, .slice none 0 0].toArray 121)).setRow gw (pwC x.1 (bV gb)).toArray) := below_setRow (below_new wr _) _ _ (by omega)
      have bw : Blk ((wr.alloc (.cells [Value.int .i64 0, .slice none 0 0].toArray 121)).setRow gw (pwC x.1 (bV gb)).toArray) gw (pwC x.1 (bV gb)) 121 := (Blk.newAt hgw).setRow _
      generalize (wr.alloc (.cells [Value.int .i64 0, .slice none 0 0].toArray 121)).setRow gw (pwC x.1 (bV gb)).toArray = w1 at be1 bw ⊢
      have hf1 : Fx (One L.gi) w0 w1 := hs.out.1.then_below be1
      have hI1 : Blk w1 L.gi ((imgT (fun _ => 512) E.pen E.img t).map byt) 5 := hs.out.2.on be1
      have hst := hide (settle_any (w := w1) (L := L) (n := E.n) (img := imgT (fun _ => 512) E.pen E.img t) (hf1.cell H.out.c0 (fun e => H.out.pi e)) hI1 (HIL.out t (by omega)) H.out.ok.n2 x.1 512 hsec (Nat.le_refl _) (bV gb) x.2 hxb (Blk.hasB (hbb.fx hf1 (fun e => hgbn e)) hxb))
      have F1 := hide hf1
      have BW := hide bw
      clear hI1 hf1 be1 bw hs RG hrg hbb
      go_wp2_with (first
        | (refine wpList_load_row rfl 121 (.tmp 5) rfl gw rfl 121 (pwC x.1 (bV gb)).toArray (0, 0) _ BW.out Tryz.underlying121 rfl (info78A _ _) ?_)
        | (go_at_call 88; refine hst.out.mono ?_; rintro e w3 ⟨rfl, hp, hq⟩; have F3 := hide hp; have I3 := hide hq; clear hp hq)
        | fail)
      go_roundw
      case rel =>
        refine ⟨t + 1, by omega, by go_num, hide ⟨F1.out.and F3.out, ?_⟩⟩
        rw [imgT, hget]; exact I3.out
      case measure => simp [intOf]; omega
    · obtain rfl : t = m := by omega
      have hD : Dev wr L { E with img := imgT (fun _ => 512) E.pen E.img t } := H.out.setImg hs.out.1 _ hs.out.2 (HIL.out t (by omega))
      have hdr := hide (drop_any hD)
      have HS := hide hs.out.1
      have HDD := hide hD
      clear hs hD
      go_wp2_with (first
        | (go_at_call 89; refine hdr.out.mono ?_; rintro e w3 ⟨rfl, hp, hq, hr⟩; have F3 := hide hp; have N3 := hide hq; have P3 := hide hr; clear hp hq hr)
        | fail)
      go_ret
      refine ⟨rfl, T0.out.trans ⟨(HS.out.mono (fun i _ h => .inr (.inl h))).and (F3.out.mono (fun i _ h => h.elim (fun h => .inr (.inr (.inl h))) (fun h => .inl h))), fun k h => .inl (drop_own L k h), rfl⟩, ?_⟩
      rw [hm]
      exact HDD.out.dropped F3.out N3.out P3.out
end Go.Proofs.YtmbgeojjklboeaaGreatDoor

set_option linter.unusedVariables false
set_option linter.unusedSimpArgs false
namespace Go.Proofs.YtmbgeojjklboeaaGreatDoor
open Go.RowKit

end Go.Proofs.YtmbgeojjklboeaaGreatDoor

set_option linter.unusedVariables false
set_option linter.unusedSimpArgs false
namespace Go.Proofs.YtmbgeojjklboeaaGreatDoor
open Go.RowKit

/-- Without its loss. -/
def unkL (L : Lay) : Lay := ⟨L.p, L.gi, L.gn, L.vp, .slice none 0 0, L.gs⟩
theorem unk_own (L : Lay) (k : Nat) (h : (unkL L).F k) : L.F k := by
  rcases h with h | h | h | h | h | h
  · exact .inl h
  · exact .inr (.inl h)
  · exact .inr (.inr (.inl h))
  · exact .inr (.inr (.inr (.inl h)))
  · simp [unkL, Value.ownBlock] at h
  · exact .inr (.inr (.inr (.inr (.inr h))))
/-- It runs again. -/
def upD (D : Dv) : Dv := ⟨D.n, D.img, D.pen, 0, [], 0, 0, false, D.calls⟩
/-- Behind a disarming. -/
theorem Dev.disarmed {w w' : World} {L : Lay} {D : Dv} (h : Dev w L D) (hf : Fx (One L.p) w w') (down : Bool) (hP : Blk w' L.p (dvC L.gi D.n L.vp L.gn 0 (.slice none 0 0) 0 0 down D.calls) 102) : Dev w' (unkL L) ⟨D.n, D.img, D.pen, 0, [], 0, 0, down, D.calls⟩ :=
  { dev := hP, img := h.img.fx hf (Ne.symm h.pi), new := h.new.fx hf (Ne.symm h.pn), pen := ownsRow_fx h.pen hf (fun k hk e => (h.vpn k hk).1 e),
    bys := fun k g x h1 h2 => (h.bys k g x h1 h2).fx hf (fun e => (h.gsn g (List.mem_of_getElem? h1)).1 e), gsl := h.gsl, kp := Has64.nil _,
    ok := ⟨h.ok.n1, h.ok.n2, h.ok.len, h.ok.sec, h.ok.few, h.ok.cal⟩, pi := h.pi, pn := h.pn, inn := h.inn,
    vpn := fun k hk => ⟨(h.vpn k hk).1, (h.vpn k hk).2.1, (h.vpn k hk).2.2.1, by simp [unkL, Value.ownBlock], (h.vpn k hk).2.2.2.2⟩,
    vkn := fun k hk => by simp [unkL, Value.ownBlock] at hk,
    gsn := fun k hk => ⟨(h.gsn k hk).1, (h.gsn k hk).2.1, (h.gsn k hk).2.2.1, Nat.lt_of_lt_of_le (h.gsn k hk).2.2.2 hf.size⟩ }
end Go.Proofs.YtmbgeojjklboeaaGreatDoor

set_option linter.unusedVariables false
set_option linter.unusedSimpArgs false
namespace Go.Proofs.YtmbgeojjklboeaaGreatDoor
open Go.RowKit

section
variable {P : Program} {ops : Array Oper} {Q : Exit → Act → World → Prop} {md : Region.Mode}

def opY (P : Program) (ops : Array Oper) (S : World → Prop) (i : Nat) (K : Act → (World → Prop) → Prop) (a : Act) (C : World → Prop) : Prop :=
  ∃ o, ops[i]? = some o ∧ ((∃ v, UniV P ops C o v a ∧ K (a.put o.dst v) C) ∨
    (Region.wanted o (yielded ops a.tmps) = true ∧ ∃ v C', (∀ w, C' w → S w) ∧ (∀ w, C w → OpTo P o a w v C') ∧ K (a.put o.dst v) C'))

def wpAnyY (P : Program) (md : Region.Mode) (ops : Array Oper) (Q : Exit → Act → World → Prop) (S : World → Prop) : Nat → Array Bool → Act → (World → Prop) → Prop
  | 0, listed, a, C => full ops.size listed = true ∧ ∀ w, C w → wpAny P md ops Q 0 listed a w
  | n + 1, listed, a, C => if full ops.size listed = true then ∀ w, C w → wpAny P md ops Q (n + 1) listed a w
      else Region.ready md ops listed ≠ [] ∧ ∀ i ∈ Region.ready md ops listed, opY P ops S i (fun a' C' => wpAnyY P md ops Q S n (listed.setIfInBounds i true) a' C') a C

theorem opY_mono {S : World → Prop} {i : Nat} {K K' : Act → (World → Prop) → Prop} {a : Act} {C : World → Prop} (hC : ∀ w, C w → S w) (hK : ∀ a C, (∀ w, C w → S w) → K a C → K' a C) (h : opY P ops S i K a C) : opY P ops S i K' a C := by
  obtain ⟨o, ho, ⟨v, hv, h⟩ | ⟨hg, v, C', h1, h2, h⟩⟩ := h
  · exact ⟨o, ho, .inl ⟨v, hv, hK _ _ hC h⟩⟩
  · exact ⟨o, ho, .inr ⟨hg, v, C', h1, h2, hK _ _ h1 h⟩⟩
theorem opY_wide {S S' : World → Prop} (hS : ∀ w, S' w → S w) {i : Nat} {K K' : Act → (World → Prop) → Prop} (hK : ∀ a C, K a C → K' a C) {a : Act} {C : World → Prop} (h : opY P ops S' i K a C) : opY P ops S i K' a C := by
  obtain ⟨o, ho, ⟨v, hv, h⟩ | ⟨hg, v, C', h1, h2, h⟩⟩ := h
  · exact ⟨o, ho, .inl ⟨v, hv, hK _ _ h⟩⟩
  · exact ⟨o, ho, .inr ⟨hg, v, C', fun w hw => hS w (h1 w hw), h2, hK _ _ h⟩⟩
/-- The worlds may be more. -/
theorem wpAnyY_wide {S S' : World → Prop} (hS : ∀ w, S' w → S w) : ∀ (n : Nat) (listed : Array Bool) (a : Act) (C : World → Prop), wpAnyY P md ops Q S' n listed a C → wpAnyY P md ops Q S n listed a C
  | 0, _, _, _, h => h
  | n + 1, listed, a, C, h => by
    unfold wpAnyY at h ⊢
    split at h
    · rename_i hf
      rw [if_pos hf]
      exact h
    · rename_i hf
      rw [if_neg hf]
      exact ⟨h.1, fun i hi => opY_wide hS (fun a C hk => wpAnyY_wide hS n _ a C hk) (h.2 i hi)⟩

theorem wpAny_of_Y {S : World → Prop} : ∀ (n : Nat) (listed : Array Bool) (a : Act) (C : World → Prop), wpAnyY P md ops Q S n listed a C → ∀ w, C w → wpAny P md ops Q n listed a w
  | 0, _, _, _, h, w, hw => h.2 w hw
  | n + 1, listed, a, C, h, w, hw => by
    unfold wpAnyY at h
    split at h
    · exact h w hw
    · refine ⟨fun h0 => absurd h0 h.1, fun i hi => ?_⟩
      obtain ⟨o, ho, ⟨v, hv, hk⟩ | ⟨hg, v, C', h1, h2, hk⟩⟩ := h.2 i hi
      · unfold wpOp
        simp only [ho]
        rcases hv with ⟨hwa, hv⟩ | ⟨hwa, rfl⟩
        · simp only [hwa, if_true, Oper.wp, hv w hw, Oper.upon]
          exact .inl (wpAny_of_Y n _ _ C hk w hw)
        · simp only [hwa, Bool.false_eq_true, if_false]
          exact wpAny_of_Y n _ _ C hk w hw
      · unfold wpOp
        simp only [ho, hg, if_true]
        exact .inl ((h2 w hw).wp fun w' hw' => wpAny_of_Y n _ _ C' hk w' hw')

theorem UniV.sub {S C : World → Prop} {o : Oper} {v : Value} {a : Act} (h : UniV P ops S o v a) (hC : ∀ w, C w → S w) : UniV P ops C o v a := by
  rcases h with ⟨h1, h2⟩ | h
  · exact .inl ⟨h1, fun w hw => h2 w (hC w hw)⟩
  · exact .inr h
theorem opY_put {S : World → Prop} {j : Nat} {oi oj : Oper} {v : Value} (hj : ops[j]? = some oj) (hap : oi.apart ops oj = true)
    (hsi : ∀ cs b, oi.op ≠ .select cs b) (hsj : ∀ cs b, oj.op ≠ .select cs b) {K : Act → (World → Prop) → Prop} {a : Act} {C : World → Prop}
    (hy : UniV P ops S oi v a) (h : opY P ops S j K (a.put oi.dst v) C) :
    opY P ops S j (fun a' C' => UniV P ops S oi v a' ∧ K (a'.put oi.dst v) C') a C := by
  obtain ⟨h1, h2, h3⟩ := Oper.apart_spec hap
  have keep : ∀ u, UniV P ops S oi v (a.put oj.dst u) := fun u => hy.of_same (execOp_put oi hsi a oj.dst u h3) (wanted_put oi a oj.dst u h3)
  obtain ⟨o, ho, h⟩ := h
  obtain rfl : oj = o := Option.some.inj (hj.symm.trans ho)
  refine ⟨oj, hj, ?_⟩
  rcases h with ⟨u, hu, hk⟩ | ⟨hg, u, C', k1, k2, hk⟩
  · refine .inl ⟨u, hu.of_same (execOp_put oj hsj a oi.dst v h1).symm (wanted_put oj a oi.dst v h1).symm, keep u, ?_⟩
    rw [← Act.put_comm a v u h2]; exact hk
  · refine .inr ⟨by rw [← hg]; exact (wanted_put oj a oi.dst v h1).symm, u, C', k1, fun w hw => (k2 w hw).of_same (execOp_put oj hsj a oi.dst v h1).symm, keep u, ?_⟩
    rw [← Act.put_comm a v u h2]; exact hk

theorem wpAnyY_first {S : World → Prop} {i : Nat} {oi : Oper} {v : Value} (hi : ops[i]? = some oi) (hsel : ∀ (j : Nat) (o : Oper) cs b, ops[j]? = some o → o.op ≠ .select cs b)
    (hiT : i < ops.size) (hok : lastOk md ops ops.size i = true) :
    ∀ (fuel : Nat) (listed : Array Bool) (a : Act) (C : World → Prop), (∀ w, C w → S w) →
      (∀ j oj, ops[j]? = some oj → j ≠ i → listed.getD j true = false → (∀ e ∈ oj.after, Region.binds md e = true → e.on ≠ i) → oi.apart ops oj = true) →
      i ∈ Region.ready md ops listed → Closed md ops listed → listed.size = ops.size →
      UniV P ops S oi v a →
      wpAnyY P md ops Q S fuel (listed.setIfInBounds i true) (a.put oi.dst v) C → wpAnyY P md ops Q S (fuel + 1) listed a C := by
  intro fuel
  induction fuel with
  | zero =>
    intro listed a C hCS _ hr hcl hsz hy H
    have hone := last_one hcl hsz (Nat.le_refl _) hok hr H.1
    have hf := not_full hiT hr
    unfold wpAnyY
    rw [if_neg (by rw [hf]; simp)]
    refine ⟨fun h => (by rw [h] at hr; cases hr), fun j hj => ?_⟩
    obtain rfl : j = i := hone j hj
    exact ⟨oi, hi, .inl ⟨v, hy.sub hCS, H⟩⟩
  | succ fuel ih =>
    intro listed a C hCS hfree hr hcl hsz hy H
    have hf := not_full hiT hr
    unfold wpAnyY
    rw [if_neg (by rw [hf]; simp)]
    refine ⟨fun h => (by rw [h] at hr; cases hr), fun j hj => ?_⟩
    by_cases hji : j = i
    · subst hji; exact ⟨oi, hi, .inl ⟨v, hy.sub hCS, H⟩⟩
    · by_cases hfl : full ops.size (listed.setIfInBounds i true) = true
      · exact absurd (last_one hcl hsz (Nat.le_refl _) hok hr hfl j hj) hji
      · unfold wpAnyY at H
        rw [if_neg hfl] at H
        have h1 := H.2 j (ready_mono hj hji)
        obtain ⟨hjun, oj, hoj, hall⟩ := mem_ready.1 hj
        have hnot : ∀ e ∈ oj.after, Region.binds md e = true → e.on ≠ i := fun e he hb heq => by
          exact getD_no (mem_ready.1 hr).1 (heq ▸ hall e he hb)
        have h2 := opY_put hoj (hfree j oj hoj hji hjun hnot) (fun cs b => hsel i oi cs b hi) (fun cs b => hsel j oj cs b hoj) hy h1
        have hfree' : ∀ k ok, ops[k]? = some ok → k ≠ i → (listed.setIfInBounds j true).getD k true = false →
            (∀ e ∈ ok.after, Region.binds md e = true → e.on ≠ i) → oi.apart ops ok = true := fun k ok hk hki hun hno => by
          refine hfree k ok hk hki ?_ hno
          by_cases hjk : j = k
          · subst hjk; exact hjun
          · rw [getD_set_ne true hjk] at hun; exact hun
        have hr' := ready_mono hr (Ne.symm hji)
        refine opY_mono hCS (fun a' C' hC' h3 => ih (listed.setIfInBounds j true) a' C' hC' hfree' hr' (hcl.set hj) (by simpa using hsz) h3.1 ?_) h2
        rw [Array.setIfInBounds_comm _ _ hji]
        exact h3.2

/-- The operations in a given order: those of one value (false), and those that turn the world (true), each of which is then the only one that can come. -/
def wpOrd (P : Program) (ops : Array Oper) (K : Act → (World → Prop) → Prop) : List (Oper × Bool) → Act → (World → Prop) → (World → Prop) → Prop
  | [], a, _, C => K a C
  | (o, false) :: r, a, S, C => ∃ v, UniV P ops S o v a ∧ wpOrd P ops K r (a.put o.dst v) S C
  | (o, true) :: r, a, S, C => Region.wanted o (yielded ops a.tmps) = true ∧ ∃ v S' C', (∀ w, C' w → S' w) ∧ (∀ w, S' w → S w) ∧ (∀ w, C w → OpTo P o a w v C') ∧ wpOrd P ops K r (a.put o.dst v) S' C'
theorem wpOrd_val {K : Act → (World → Prop) → Prop} {o : Oper} {r : List (Oper × Bool)} {a a' : Act} {S C : World → Prop} (v : Value) (hu : UniV P ops S o v a) (ha : a.put o.dst v = a') (h : wpOrd P ops K r a' S C) : wpOrd P ops K ((o, false) :: r) a S C := ⟨v, hu, by rw [ha]; exact h⟩
/-- From one world to one other. -/
theorem wpOrd_to {K : Act → (World → Prop) → Prop} {o : Oper} {r : List (Oper × Bool)} {a a' : Act} {S : World → Prop} {w : World} (hg : Region.wanted o (yielded ops a.tmps) = true) (v : Value) (w' : World) (S' : World → Prop) (h1 : S' w') (h2 : ∀ W, S' W → S W) (ho : OpTo P o a w v (fun W => W = w')) (ha : a.put o.dst v = a') (h : wpOrd P ops K r a' S' (fun W => W = w')) : wpOrd P ops K ((o, true) :: r) a S (fun W => W = w) :=
  ⟨hg, v, S', fun W => W = w', fun W hW => by rw [hW]; exact h1, h2, fun W hW => by rw [hW]; exact ho, by rw [ha]; exact h⟩
def ordOps (l : List Oper) : List (Nat × Bool) → List (Oper × Bool)
  | [] => []
  | (k, b) :: r => (l.getD k default, b) :: ordOps l r
def ordOk (md : Region.Mode) (ops : Array Oper) : List (Nat × Bool) → Array Bool → Bool
  | [], listed => full ops.size listed && (Region.ready md ops listed).isEmpty
  | (k, false) :: r, listed => (Region.ready md ops listed).contains k && Region.free md ops listed k && lastOk md ops ops.size k && decide (k < ops.size) && ordOk md ops r (listed.setIfInBounds k true)
  | (k, true) :: r, listed => (Region.ready md ops listed == [k]) && decide (k < ops.size) && !full ops.size listed && ordOk md ops r (listed.setIfInBounds k true)
theorem wpAnyY_ord {l : List Oper} (hs : Region.noSelect l.toArray = true) : ∀ (ks : List (Nat × Bool)) (listed : Array Bool) (a : Act) (S C : World → Prop), ordOk md l.toArray ks listed = true → (∀ w, C w → S w) → Closed md l.toArray listed → listed.size = l.toArray.size →
    wpOrd P l.toArray (fun a' C' => ∀ w, C' w → Q .normal a' w) (ordOps l ks) a S C → wpAnyY P md l.toArray Q S ks.length listed a C
  | [], listed, a, S, C, hB, _, _, _, h => by
    simp only [ordOk, Bool.and_eq_true] at hB
    exact ⟨hB.1, fun w hw => wpAny_done (by simpa using hB.2) (h w hw) 0⟩
  | (k, false) :: r, listed, a, S, C, hB, hCS, hcl, hsz, ⟨v, hv, h⟩ => by
    simp only [ordOk, Bool.and_eq_true, decide_eq_true_eq] at hB
    obtain ⟨⟨⟨⟨hr, hf⟩, hok⟩, hkT⟩, hB'⟩ := hB
    have hr' : k ∈ Region.ready md l.toArray listed := by simpa using hr
    have hk : k < l.length := by simpa using hkT
    have e0 : l.getD k default = l[k] := by simp [List.getD_eq_getElem?_getD, hk]
    have h0 : l.toArray[k]? = some (l.getD k default) := by rw [e0]; simp [hk]
    exact wpAnyY_first h0 (Region.noSelect_spec hs) hkT hok r.length listed a C hCS (Region.free_spec h0 hf) hr' hcl hsz hv (wpAnyY_ord hs r _ _ S C hB' hCS (hcl.set hr') (by simpa using hsz) h)
  | (k, true) :: r, listed, a, S, C, hB, hCS, hcl, hsz, ⟨hg, v, S', C', h1, h2, h3, h⟩ => by
    simp only [ordOk, Bool.and_eq_true, decide_eq_true_eq, beq_iff_eq, Bool.not_eq_true'] at hB
    obtain ⟨⟨⟨hr, hkT⟩, hf⟩, hB'⟩ := hB
    have hr' : k ∈ Region.ready md l.toArray listed := by rw [hr]; simp
    have hk : k < l.length := by simpa using hkT
    have e0 : l.getD k default = l[k] := by simp [List.getD_eq_getElem?_getD, hk]
    have h0 : l.toArray[k]? = some (l.getD k default) := by rw [e0]; simp [hk]
    have ih := wpAnyY_ord hs r (listed.setIfInBounds k true) _ S' C' hB' h1 (hcl.set hr') (by simpa using hsz) h
    have ih2 := wpAnyY_wide h2 _ _ _ _ ih
    show wpAnyY P md l.toArray Q S (r.length + 1) listed a C
    unfold wpAnyY
    rw [if_neg (by rw [hf]; simp)]
    refine ⟨by rw [hr]; simp, fun i hi => ?_⟩
    obtain rfl : i = k := by rw [hr] at hi; simpa using hi
    exact ⟨_, h0, .inr ⟨hg, v, C', fun w hw => h2 w (h1 w hw), h3, ih2⟩⟩
/-- A region that draws, in the order ks. -/
theorem reg_ord {id : Nat} {l : List Oper} {a : Act} {w : World} (ks : List (Nat × Bool)) (S : World → Prop) (hm : P.follows .mixedOrders = true) (hl : l.length = ks.length)
    (hB : (Region.noSelect l.toArray && ordOk .any l.toArray ks (none_ ks.length)) = true) (hS : S { w with drawn := w.drawn + 1 })
    (h : wpOrd P l.toArray (fun a' C' => ∀ W, C' W → Q .normal a' W) (ordOps l ks) a S (fun W => W = { w with drawn := w.drawn + 1 })) : (Code.region id l.toArray true).wp P Q a w := by
  simp only [Bool.and_eq_true] at hB
  refine wp_region_any hm ?_
  rw [show l.toArray.size = ks.length by simpa using hl]
  exact wpAny_of_Y (S := S) _ _ _ (fun W => W = { w with drawn := w.drawn + 1 }) (wpAnyY_ord hB.1 ks (none_ ks.length) a S _ hB.2 (fun W hW => by rw [hW]; exact hS) (closed_none _) (by simp [none_, hl]) h) _ rfl
end
end Go.Proofs.YtmbgeojjklboeaaGreatDoor

set_option linter.unusedVariables false
set_option linter.unusedSimpArgs false
namespace Go.Proofs.YtmbgeojjklboeaaGreatDoor
open Go.RowKit

section
variable {P : Program} {ops : Array Oper}
theorem OpTo.mks {o : Oper} {a : Act} {w w1 : World} (t : TypeId) (x y : Operand) (ho : o.op = .makeSlice t x y) (u u' v : Value) (hx : a.eval x = u) (hy : a.eval y = u') (h : (Instr.makeSlice t u u').run P w = .ok v w1) : OpTo P o a w v (fun W => W = w1) := by
  refine .inl ⟨w1, ?_, rfl⟩
  unfold execOp
  simp only [ho, hx, hy, Sem.run_bind, h, Result.andThen_ok, Sem.run_pure]
theorem OpTo.storeMid {op : Oper} {a : Act} {w : World} (ty : TypeId) (x y : Operand) (ho : op.op = .store ty x y) (b o : Nat) (cs : List Value) (hx : a.eval x = .pointer (some ⟨b, o, none⟩)) (hy : a.eval y = .agg cs.toArray)
    (ht : w.there b o cs.length) (hi : (P.info? ty).map (·.size) = some cs.length) (h1 : cs.toArray.all (·.oneCell') = true) : OpTo P op a w undef (fun W => W = w.setCells b o cs) := by
  refine .inr (.inl ⟨rfl, _, ?_, rfl⟩)
  unfold execOp
  simp only [ho, hx, hy, Instr.storeAt, Instr.sureAddr, Sem.run_bind, Sem.run_pure, Result.andThen_ok, run_storeVar_mid w b o ty cs.toArray (by simpa using ht) (by simpa using hi) h1]
theorem OpTo.copy {o : Oper} {a : Act} {w w1 : World} (t s : TypeId) (x y : Operand) (ho : o.op = .call { callee := .builtin .copy, args := #[x, y], argTypes := #[t, s] }) (u u' v : Value) (hx : a.eval x = u) (hy : a.eval y = u') (h : (Builtin.copy_ #[t, s] o.type #[u, u']).run P w = .ok v w1) : OpTo P o a w v (fun W => W = w1) := by
  refine .inl ⟨w1, ?_, rfl⟩
  simp [execOp, ho, resolve, invoke, builtin, hx, hy, h, Result.andThen]
theorem OpTo.build3 {o : Oper} {a : Act} {w : World} (t : TypeId) (x y z : Operand) (ho : o.op = .build t #[(0, x), (1, y), (2, z)]) (u u' u'' v : Value) (hx : a.eval x = u) (hy : a.eval y = u') (hz : a.eval z = u'') (h : (Instr.build t #[(0, u), (1, u'), (2, u'')]).run P w = .ok v w) : OpTo P o a w v (fun W => W = w) := by
  refine .inl ⟨w, ?_, rfl⟩
  unfold execOp
  simp only [ho, List.map_toArray, List.map_cons, List.map_nil, hx, hy, hz, Sem.run_bind, h, Result.andThen_ok, Sem.run_pure]
end
theorem build38s (ad : Option Addr) (l c : Nat) (t o : Int) (W : World) : (Instr.build 63 #[(0, .slice ad l c), (1, .int .i64 t), (2, .int .i64 o)]).run Tryz.prog W = .ok (.agg (lossC (.slice ad l c) t o).toArray) W := by kernel_rfl
theorem lossC_oneA (ad : Option Addr) (l c : Nat) (t o : Int) : (lossC (.slice ad l c) t o).toArray.all (·.oneCell') = true := all_oneCell_toArray fun v hv => by
  simp only [lossC, List.mem_cons, List.not_mem_nil, or_false] at hv
  rcases hv with rfl | rfl | rfl <;> rfl
/-- Armed with a loss. -/
def armD (D : Dv) (step : Nat) (ks : List (BitVec 64)) (torn off : Int) : Dv := ⟨D.n, D.img, D.pen, step, ks, torn, off, D.down, D.calls⟩
def armL (L : Lay) (v : Value) : Lay := ⟨L.p, L.gi, L.gn, L.vp, v, L.gs⟩
theorem Has64.len2 {w : World} {v : Value} {bs : List (BitVec 64)} (h : Has64 w v bs) : ∀ W ty, (Builtin.len_ #[61] ty #[v]).run Tryz.prog W = .ok (.int .i64 (bs.length : Int)) W := fun W ty => h.len W ty
/-- Behind an arming. -/
theorem Dev.armed {w w' : World} {L : Lay} {D : Dv} (h : Dev w L D) (g : Nat) (hg : w.heap.size ≤ g) (hgl : g < w'.heap.size) (hf : Fx (One L.p) w w') (step : Nat) (ks : List (BitVec 64)) (torn off : Int) (hP : Blk w' L.p (dvC L.gi D.n L.vp L.gn step (.slice (some ⟨g, 0, none⟩) ks.length ks.length) torn off D.down D.calls) 102) (hK : Blk w' g (ks.map wv) 168) : Dev w' (armL L (.slice (some ⟨g, 0, none⟩) ks.length ks.length)) (armD D step ks torn off) :=
  { dev := hP, img := h.img.fx hf (Ne.symm h.pi), new := h.new.fx hf (Ne.symm h.pn), pen := ownsRow_fx h.pen hf (fun k hk e => (h.vpn k hk).1 e),
    bys := fun k g x h1 h2 => (h.bys k g x h1 h2).fx hf (fun e => (h.gsn g (List.mem_of_getElem? h1)).1 e), gsl := h.gsl,
    kp := .inr ⟨⟨g, 0, none⟩, ks.length, rfl, Nat.le_refl _, fun i u hu => by
      have hu2 : ks[i]? = some u := hu
      rw [add_plain, hK.cell, List.getElem?_map, hu2]; rfl⟩,
    ok := ⟨h.ok.n1, h.ok.n2, h.ok.len, h.ok.sec, h.ok.few, h.ok.cal⟩, pi := h.pi, pn := h.pn, inn := h.inn,
    vpn := fun k hk => ⟨(h.vpn k hk).1, (h.vpn k hk).2.1, (h.vpn k hk).2.2.1, fun e => by
      have h1 := ownsRow_lt h.pen k hk
      simp [armL, Value.ownBlock] at e
      omega, (h.vpn k hk).2.2.2.2⟩,
    vkn := fun k hk => by
      have e : g = k := by simpa [armL, Value.ownBlock] using hk
      have h1 := h.dev.lt
      have h2 := h.img.lt
      have h3 := h.new.lt
      refine ⟨?_, ?_, ?_, by omega⟩ <;> simp only [armL] <;> omega,
    gsn := fun k hk => ⟨(h.gsn k hk).1, (h.gsn k hk).2.1, (h.gsn k hk).2.2.1, Nat.lt_of_lt_of_le (h.gsn k hk).2.2.2 hf.size⟩ }
end Go.Proofs.YtmbgeojjklboeaaGreatDoor
