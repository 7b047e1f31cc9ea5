import Derived.Test.YtiefgmgjlhjjhaaDoorRegG
namespace Go.Proofs.YtiefgmgjlhjjhaaDoor
open Go.RowKit

/-- 'x[l:]' of an array of 64 bytes. -/
theorem sl42l (g o l : Nat) (li : Int) (el : li = l) (hl' : l < 64) (W : World) :
    (Instr.sliceAt 134 (.pointer (some ⟨g, o, none⟩)) (some (.int .i64 li)) none none).run Tryd.prog W = .ok (.slice (some ⟨g, o + l, none⟩) (64 - l) (64 - l)) W := by
  subst el
  have hu : Tryd.prog.underlying 134 = some (.array (Tryd.prog.arrayLen 134) (Tryd.prog.elem 134)) := by kernel_rfl
  have e1 : Tryd.prog.arrayLen 134 = 64 := by kernel_rfl
  have e2 : Tryd.prog.elem 134 = 5 := by kernel_rfl
  rw [run_sliceAt_array_l W 134 _ hu .i64 l (by omega) (by rw [e1]; omega), e1, e2, Tryd.sizeOf5]
  simp only [Result.andThen, slicedAt, Int.toNat_natCast, Nat.mul_one]
  rw [if_neg (by omega), Addr.add_mid]

theorem info5s : (Tryd.prog.info? 5).map (·.size) = some 1 := by kernel_rfl

/-- 'copy(h.rest[at:], b)'. -/
theorem wpList_cpy {ops : Array Oper} {rest : List Oper} {o : Oper} {a : Act} {w : World} {Q : Exit → Act → World → Prop} (hgd : o.guard = none) (d x : Operand)
    (ho : o.op = .call { callee := .builtin .copy, args := #[d, x], argTypes := #[24, 24] }) (p at_ : Nat) (hd : a.eval d = .slice (some ⟨p, 8 + at_, none⟩) (64 - at_) (64 - at_))
    (ad : Addr) (n cap : Nat) (hx : a.eval x = .slice (some ad) n cap) (bs xs : List UInt8) (hbs : bs.length = n) (hh : ∀ i u, bs[i]? = some u → w.cell? (ad.add i) = some (byt u))
    (q : Nat) (hq : q = min n (64 - at_)) (hxs : xs = bs.take q) (s : List (BitVec 32)) (r : List UInt8) (m : Int) (hr : HR w p s r m) (hat : at_ < 64)
    (h : ∀ w', HR w' p s (r.take at_ ++ xs ++ r.drop (at_ + xs.length)) m → Fx (One p) w w' → wpList Tryd.prog ops Q rest (a.put o.dst (.int .i64 (q : Int))) w') : wpList Tryd.prog ops Q (o :: rest) a w := by
  have hl : xs.length = q := by rw [hxs, List.length_take]; omega
  have hrun := run_copy_cells (P := Tryd.prog) w 24 24 o.type 5 p (8 + at_) (64 - at_) (64 - at_) ad n cap (xs.map byt) Tryd.underlying24 info5s (by rw [List.length_map, hl, hq])
    (fun j v hj => by
      rw [List.getElem?_map, Option.map_eq_some_iff] at hj
      obtain ⟨u, hu, rfl⟩ := hj
      have hjq : j < xs.length := (List.getElem?_eq_some_iff.1 hu).1
      rw [hxs, List.getElem?_take_of_lt (by omega)] at hu
      exact hh j u hu)
    (fun j hj => hr.some _ (by rw [List.length_map] at hj; omega)) (fun j _ => hr.frozen _) (byt_one xs)
  refine wpList_plain hgd fun K hK => ?_
  unfold Oper.wp
  rw [List.length_map, hl] at hrun
  simp [execOp, ho, resolve, invoke, builtin, hd, hx, hrun, Result.andThen]
  exact hK _ _ (h _ (hr.putRest at_ xs (by omega)) (Fx.setCells (S := One p) p rfl _ _ _))

def sLen : Value → Nat
  | .slice _ n _ => n
  | _ => 0

theorem HR.to {w : World} {p : Nat} {s : List (BitVec 32)} {r : List UInt8} {n : Int} (h : HR w p s r n) {m : List UInt8} (h1 : stt m = s) (h2 : rst m = r) (h3 : (m.length : Int) = n) : HAt w p m := by
  unfold HAt hcells
  rw [h1, h2, h3]
  exact h.bl

set_option maxHeartbeats 2000000 in
set_option maxRecDepth 100000 in
theorem write_any (p : Nat) (m bs : List UInt8) (v : Value) (w : World) (hH : HAt w p m) (hv : Has w v bs) (hvp : bs = [] ∨ v.ownBlock ≠ some p) (hK : Kst w) (hp : p ≠ 0) (hn : m.length + bs.length ≤ 4611686018427387904) :
    Calls Tryd.prog 58 #[.pointer (some ⟨p, 0, none⟩), v] w fun e w' => e = .returned (.tuple #[]) ∧ HAt w' p (m ++ bs) ∧ Fx (One p) w w' := by
  have HH := hide hH
  have HV := hide hv
  have HN := hide hvp
  have HK := hide hK
  have HP := hide hp
  have HL := hide hn
  clear hH hv hvp hK hp hn
  go_enter Tryd.func58, Tryd.ntmps58
  go_wp2
  go_loopw [1] (fun b wr => ∃ k : Nat, k ≤ bs.length ∧ Hid (Has wr b (bs.drop k)) ∧ Hid (bs.drop k = [] ∨ b.ownBlock ≠ some p) ∧ Hid (HAt wr p (m ++ bs.take k)) ∧ Hid (Fx (One p) w wr)) (fun b _ => sLen b)
  case atStart => exact ⟨0, by omega, HV, HN, by rw [List.take_zero, List.append_nil]; exact HH, hide (Fx.refl _ _)⟩
  case round =>
    obtain ⟨k, hk, hx, hbn, hy, hf⟩ := hrel
    by_cases hlt : k < bs.length
    · have hbn' : Hid (u1.ownBlock ≠ some p) := by
        rcases hbn.out with h0 | h
        · have := congrArg List.length h0
          simp at this
          omega
        · exact h
      clear hbn
      have hbn := hbn'
      clear hbn'
      obtain ⟨ad, cap, rfl, hcap, hcells⟩ : ∃ ad cap, u1 = .slice (some ad) (bs.drop k).length cap ∧ (bs.drop k).length ≤ cap ∧ ∀ i u, (bs.drop k)[i]? = some u → wr.cell? (ad.add i) = some (byt u) := by
        rcases hx.out with ⟨_, h0⟩ | h
        · have := congrArg List.length h0
          simp at this
          omega
        · exact h
      have hb0 := hx.out
      obtain ⟨B, hB⟩ : ∃ B, B = bs.drop k := ⟨_, rfl⟩
      obtain ⟨M, hM⟩ : ∃ M, M = m ++ bs.take k := ⟨_, rfl⟩
      have hBl : B.length = bs.length - k := by rw [hB, List.length_drop]
      have hMl : M.length = m.length + k := by rw [hM, List.length_append, List.length_take]; omega
      have hMB : m ++ bs = M ++ B := by rw [hM, hB, List.append_assoc, List.take_append_drop]
      rw [← hB] at hb0 hcap hcells hbn
      rw [← hM] at hy
      have hln := HL.out
      obtain ⟨nM, hnM⟩ : ∃ n, n = M.length := ⟨_, rfl⟩
      obtain ⟨L, hL⟩ : ∃ n, n = B.length := ⟨_, rfl⟩
      obtain ⟨at_, hat⟩ : ∃ n, n = nM % 64 := ⟨_, rfl⟩
      obtain ⟨q, hq⟩ : ∃ n, n = min L (64 - at_) := ⟨_, rfl⟩
      have hr := hy.out.hr
      rw [← hnM] at hr
      have ha64 : at_ < 64 := by omega
      have hq0 : 0 < q := by omega
      have hqL : q ≤ L := by omega
      have hLz : (0 : Int) < (L : Int) := by omega
      have hmod : (nM : Int) % 64 = (at_ : Int) := by omega
      have hnb : nM ≤ 4611686018427387904 := by omega
      have hz := hr.size
      have hsl := fun W => sl42l p 8 at_ (at_ : Int) rfl ha64 W
      have hcut := fun W => hb0.cutL q (by omega) W
      rw [← hL] at hcut
      rw [← hB, ← hL]
      rw [← hL] at hbn
      have hxs : B.take q = B.take q := rfl
      obtain ⟨X, hX⟩ : ∃ X, X = B.take q := ⟨_, rfl⟩
      have hXl : X.length = q := by rw [hX, List.length_take]; omega
      obtain ⟨V, hV⟩ : ∃ V, V = cutV (.slice (some ad) L cap) q L := ⟨_, rfl⟩
      rw [← hV] at hcut
      have HVh : Hid (Has wr V (B.drop q)) := by
        have := hb0.cut q L hqL (by omega)
        rw [← hL, ← hV, List.take_of_length_le (by rw [List.length_drop]; omega)] at this
        exact this
      have HVn : Hid (V.ownBlock ≠ some p) := fun h => hbn.out (cut_own (hV ▸ h))
      have HVl : Hid (sLen V = L - q) := by rw [hV]; rfl
      have HC := hide hcells
      have HR0 := hide hr
      have HMB := hide hMB
      have HX := hide hX
      have HXl := hide hXl
      have Hq := hide hq
      have Hat := hide hat
      have HnM := hide hnM
      have HLB := hide hL
      have HB' := hide hB
      have HM' := hide hM
      have HBl := hide hBl
      have HMl := hide hMl
      have HVd := hide hV
      clear hcells hr hMB hX hXl hq hat hnM hL hB hM hBl hMl hV hxs hln hcap hb0 hx hy
      have hq64 : q ≤ 64 := by have := Hq.out; omega
      by_cases hful : at_ + q = 64
      · have hne : (((at_ : Int) + (q : Int)) == 64) = true := by simp; omega
        go_wp2_with (refine wpList_cpy rfl (.tmp 18) (.tmp 19) rfl p at_ rfl ad L cap rfl B X HLB.out.symm HC.out q Hq.out HX.out (stt M) (rst M) nM HR0.out ha64 ?_; intro w1 h1 f1; have z1 := h1.size; have fz1 := h1.frozen 72; have H1 := hide h1; have F1 := hide f1; clear h1 f1)
        have hfx0 := F1.out.and (Fx.setCell (S := One p) w1 p 72 (.int .i64 ((nM : Int) + q)) rfl)
        have hH6 : Hid (HR (w1.setCell ⟨p, 72, none⟩ (.int .i64 ((nM : Int) + q))) p (stt M) ((rst M).take at_ ++ X ++ (rst M).drop (at_ + X.length)) ((nM : Int) + q)) := H1.out.putSize _
        have hF6 : Hid (Fx (One p) w (w1.setCell ⟨p, 72, none⟩ (.int .i64 ((nM : Int) + q)))) := hf.out.and hfx0
        have hV6 : Hid (Has (w1.setCell ⟨p, 72, none⟩ (.int .i64 ((nM : Int) + q))) V (B.drop q)) := HVh.out.fx hfx0 (fun b hb e => HVn.out (by rw [hb, show b = p from e]))
        generalize w1.setCell ⟨p, 72, none⟩ (.int .i64 ((nM : Int) + q)) = W6 at hH6 hF6 hV6 ⊢
        obtain ⟨R, hR⟩ : ∃ R, R = (rst M).take at_ ++ X ++ (rst M).drop (at_ + X.length) := ⟨_, rfl⟩
        rw [← hR] at hH6
        have HRd := hide hR
        clear hR z1 fz1 H1 F1 hfx0
        have hK6' : Kst W6 := HK.out.fx hF6.out (fun h : (0 : Nat) = p => HP.out h.symm)
        have hK6 : Hid (Kst { W6 with drawn := W6.drawn + 1 }) := hK6'
        clear hK6'
        have hHd : Hid (HR { W6 with drawn := W6.drawn + 1 } p (stt M) R ((nM : Int) + q)) := ⟨hH6.out.bl, hH6.out.hs, hH6.out.hr⟩
        refine wp_region_noPanic ?_
        refine wp_region_any (by kernel_rfl) ?_
        refine take_any (i := 0) rfl rfl (.move (.tmp 0)) rfl 36 rfl (v := .pointer (some ⟨p, 0, none⟩)) (by kernel_rfl) (by kernel_rfl) (by kernel_rfl) (fun _ _ _ h => h) (fun o' ho w => by go_simp) ?_
        simp only [Act.put, List.setIfInBounds_toArray, List.set_cons_zero, List.set_cons_succ]
        refine take_any (i := 1) rfl rfl (.move (.tmp 0)) rfl 37 rfl (v := .pointer (some ⟨p, 0, none⟩)) (by kernel_rfl) (by kernel_rfl) (by kernel_rfl) (fun _ _ _ h => h) (fun o' ho w => by go_simp) ?_
        simp only [Act.put, List.setIfInBounds_toArray, List.set_cons_zero, List.set_cons_succ]
        refine take_any (i := 2) rfl rfl (.nilCheck (.tmp 37)) rfl 38 rfl (v := .pointer (some ⟨p, 0, none⟩)) (by kernel_rfl) (by kernel_rfl) (by kernel_rfl) (fun _ _ _ h => h) (fun o' ho w => by go_simp) ?_
        simp only [Act.put, List.setIfInBounds_toArray, List.set_cons_zero, List.set_cons_succ]
        refine take_any (i := 3) rfl rfl (.fieldAddr 136 (.tmp 38) 0) rfl 39 rfl (v := .pointer (some ⟨p, 0, none⟩)) (by kernel_rfl) (by kernel_rfl) (by kernel_rfl) (fun _ _ _ h => h) (fun o' ho w => by go_simp) ?_
        simp only [Act.put, List.setIfInBounds_toArray, List.set_cons_zero, List.set_cons_succ]
        refine take_any (i := 5) rfl rfl (.move (.tmp 0)) rfl 41 rfl (v := .pointer (some ⟨p, 0, none⟩)) (by kernel_rfl) (by kernel_rfl) (by kernel_rfl) (fun _ _ _ h => h) (fun o' ho w => by go_simp) ?_
        simp only [Act.put, List.setIfInBounds_toArray, List.set_cons_zero, List.set_cons_succ]
        refine take_any (i := 6) rfl rfl (.nilCheck (.tmp 41)) rfl 42 rfl (v := .pointer (some ⟨p, 0, none⟩)) (by kernel_rfl) (by kernel_rfl) (by kernel_rfl) (fun _ _ _ h => h) (fun o' ho w => by go_simp) ?_
        simp only [Act.put, List.setIfInBounds_toArray, List.set_cons_zero, List.set_cons_succ]
        refine take_any (i := 7) rfl rfl (.fieldAddr 136 (.tmp 42) 1) rfl 43 rfl (v := .pointer (some ⟨p, 8, none⟩)) (by kernel_rfl) (by kernel_rfl) (by kernel_rfl) (fun _ _ _ h => h) (fun o' ho w => by go_simp) ?_
        simp only [Act.put, List.setIfInBounds_toArray, List.set_cons_zero, List.set_cons_succ]
        have hst : { W6 with drawn := W6.drawn + 1 }.rangeAt p 0 (wvs (stt M)) := hHd.out.state
        have hre : { W6 with drawn := W6.drawn + 1 }.rangeAt p 8 (R.map byt) := hHd.out.rest
        have i39 : (Tryd.prog.info? 132).map (·.size) = some (wvs (stt M)).length := by rw [wvs_length, stt_length]; kernel_rfl
        have i42 : (Tryd.prog.info? 134).map (·.size) = some (R.map byt).length := by rw [List.length_map, hHd.out.hr]; kernel_rfl
        have hcall : Hid (Calls Tryd.prog 65 #[.agg (wvs (stt M)).toArray, .agg (R.map byt).toArray] { W6 with drawn := W6.drawn + 1 } fun e w' => ∃ v, e = .returned v ∧ v = .agg (wvs (comp (stt M) R)).toArray ∧ Below W6.heap.size { W6 with drawn := W6.drawn + 1 } w') :=
          (comp_any (stt M) (stt_length M) R hHd.out.hr _ hK6.out).mono fun e w' ⟨h1, h2⟩ => ⟨_, h1, rfl, h2⟩
        refine either (i := 4) (j := 8) (by kernel_rfl) ?_ ?_
        refine op_load rfl rfl 40 rfl 132 (.tmp 39) rfl p 0 rfl (wvs (stt M)) _ hst Tryd.underlying132 rfl i39 ?_
        simp only [Act.put, List.setIfInBounds_toArray, List.set_cons_zero, List.set_cons_succ]
        refine only_one (i := 8) (by kernel_rfl) ?_
        refine op_load rfl rfl 44 rfl 134 (.tmp 43) rfl p 8 rfl (R.map byt) _ hre Tryd.underlying134 rfl i42 ?_
        simp only [Act.put, List.setIfInBounds_toArray, List.set_cons_zero, List.set_cons_succ]
        rotate_left
        refine op_load rfl rfl 44 rfl 134 (.tmp 43) rfl p 8 rfl (R.map byt) _ hre Tryd.underlying134 rfl i42 ?_
        simp only [Act.put, List.setIfInBounds_toArray, List.set_cons_zero, List.set_cons_succ]
        refine only_one (i := 4) (by kernel_rfl) ?_
        refine op_load rfl rfl 40 rfl 132 (.tmp 39) rfl p 0 rfl (wvs (stt M)) _ hst Tryd.underlying132 rfl i39 ?_
        simp only [Act.put, List.setIfInBounds_toArray, List.set_cons_zero, List.set_cons_succ]
        all_goals
          refine only_one (i := 9) (by kernel_rfl) ?_
          refine op_call rfl rfl _ rfl 45 rfl 65 #[.agg (wvs (stt M)).toArray, .agg (R.map byt).toArray] (fun o' ho => by go_simp) hcall.out ?_
          rintro v w2 ⟨rfl, hb2⟩
          simp only [Act.put, List.setIfInBounds_toArray, List.set_cons_zero, List.set_cons_succ]
          refine take_any (i := 10) rfl rfl (.nilCheck (.tmp 36)) rfl 46 rfl (v := .pointer (some ⟨p, 0, none⟩)) (by kernel_rfl) (by kernel_rfl) (by kernel_rfl) (fun _ _ _ h => h) (fun o' ho w => by go_simp) ?_
          simp only [Act.put, List.setIfInBounds_toArray, List.set_cons_zero, List.set_cons_succ]
          refine take_any (i := 11) rfl rfl (.fieldAddr 136 (.tmp 46) 0) rfl 47 rfl (v := .pointer (some ⟨p, 0, none⟩)) (by kernel_rfl) (by kernel_rfl) (by kernel_rfl) (fun _ _ _ h => h) (fun o' ho w => by go_simp) ?_
          simp only [Act.put, List.setIfInBounds_toArray, List.set_cons_zero, List.set_cons_succ]
          refine only_one (i := 12) (by kernel_rfl) ?_
          have hf2 : Fx (One p) W6 w2 := ⟨hb2.os, hb2.tape, hb2.output, hb2.size, fun k hk _ => hb2.block k hk⟩
          have hH2 : Hid (HR w2 p (stt M) R ((nM : Int) + q)) := ⟨hHd.out.bl.below hb2 hH6.out.bl.lt, hH6.out.hs, hH6.out.hr⟩
          have hl8 := (comp_length (stt M) R).trans (stt_length M)
          refine op_store rfl rfl rfl 132 (.tmp 47) (.tmp 45) rfl p 0 (wvs (comp (stt M) R)).toArray rfl rfl (hH2.out.there 0 _ (by rw [List.size_toArray, wvs_length, hl8]; decide)) (info39 _ hl8) (wvs_one _) ?_
          refine wpAny_done (by kernel_rfl) (NoPanic.normal ?_) _
          have hH3 : Hid (HR (w2.setCells p 0 (wvs (comp (stt M) R)).toArray.toList) p (comp (stt M) R) R ((nM : Int) + q)) := hH2.out.putState _ hl8
          have hF3 : Hid (Fx (One p) W6 (w2.setCells p 0 (wvs (comp (stt M) R)).toArray.toList)) := hf2.and (Fx.setCells (S := One p) p rfl _ _ _)
          generalize w2.setCells p 0 (wvs (comp (stt M) R)).toArray.toList = w3 at hH3 hF3 ⊢
          clear hb2 hf2 hH2
          have hbld : (Tryd.prog.built 134 []).isSome = true := by kernel_rfl
          have hbl2 : (Tryd.prog.built 134 []).getD #[] = (z64b.map byt).toArray := by kernel_rfl
          go_wp2_with (first
            | (refine wpList_build rfl 134 #[] rfl hbld ?_; rw [show (Tryd.prog.built 134 _).getD #[] = (z64b.map byt).toArray from hbl2])
            | (refine wpList_store_mid rfl 134 (.tmp 51) (.tmp 49) rfl p 8 (z64b.map byt).toArray rfl rfl (hH3.out.there 8 _ (by simp [z64b_length])) (info42 _ z64b_length) (all_oneCell_toArray (byt_one _)) ?_))
          simp only [Act.put]
          go_roundw
          case rel =>
            have hkb : k + q ≤ bs.length := by have := HLB.out; have := HBl.out; omega
            have e1 : B.drop q = bs.drop (k + q) := by rw [HB'.out, List.drop_drop]
            have e2 : m ++ bs.take (k + q) = M ++ X := by rw [HM'.out, HX.out, HB'.out, List.append_assoc, List.take_add]
            have hlt' : M.length % 64 + X.length = 64 := by rw [HXl.out, ← HnM.out, ← Hat.out]; exact hful
            obtain ⟨s1, s2⟩ := step_eq M X hlt'
            have hfx := hF3.out.and (Fx.setCells (S := One p) p rfl (z64b.map byt).toArray.toList 8 w3)
            refine ⟨k + q, hkb, ?_, .inr HVn.out, ?_, hF6.out.and hfx⟩
            · rw [← e1]; exact hV6.out.fx hfx (fun b hb e => HVn.out (by rw [hb, show b = p from e]))
            · rw [e2]
              have h4 := hH3.out.putRest 0 z64b (by rw [z64b_length]; omega)
              rw [List.take_zero, List.nil_append, show R.drop (0 + z64b.length) = [] from List.drop_of_length_le (by rw [z64b_length, hH3.out.hr]; omega), List.append_nil] at h4
              refine h4.to ?_ s2 ?_
              · rw [s1, ← HnM.out, ← Hat.out, ← HRd.out]
              · rw [List.length_append, HXl.out, ← HnM.out]; omega
          case measure => rw [HVl.out]; show L - q < L; omega
      · have hne : (((at_ : Int) + (q : Int)) == 64) = false := by simp; omega
        go_wp2_with (refine wpList_cpy rfl (.tmp 18) (.tmp 19) rfl p at_ rfl ad L cap rfl B X HLB.out.symm HC.out q Hq.out HX.out (stt M) (rst M) nM HR0.out ha64 ?_; intro w1 h1 f1; have z1 := h1.size; have fz1 := h1.frozen 72; have H1 := hide h1; have F1 := hide f1; clear h1 f1)
        go_roundw
        case rel =>
          have hkb : k + q ≤ bs.length := by have := HLB.out; have := HBl.out; omega
          have e1 : B.drop q = bs.drop (k + q) := by rw [HB'.out, List.drop_drop]
          have e2 : m ++ bs.take (k + q) = M ++ X := by rw [HM'.out, HX.out, HB'.out, List.append_assoc, List.take_add]
          have hlt' : M.length % 64 + X.length < 64 := by rw [HXl.out, ← HnM.out, ← Hat.out]; have := Hq.out; omega
          obtain ⟨s1, s2⟩ := step_lt M X hlt'
          have hfx := F1.out.and (Fx.setCell (S := One p) w1 p 72 (.int .i64 ((nM : Int) + q)) rfl)
          refine ⟨k + q, hkb, ?_, .inr HVn.out, ?_, hf.out.and hfx⟩
          · rw [← e1]; exact HVh.out.fx hfx (fun b hb e => HVn.out (by rw [hb, show b = p from e]))
          · rw [e2]
            refine (H1.out.putSize ((nM : Int) + q)).to s1 ?_ ?_
            · rw [s2, HXl.out, ← HnM.out, ← Hat.out]
            · rw [List.length_append, HXl.out, ← HnM.out]; omega
        case measure => rw [HVl.out]; show L - q < L; omega
    · obtain rfl : k = bs.length := by omega
      have hlen := hx.out.slice
      rw [List.drop_length] at hlen
      obtain ⟨ao, cap, rfl⟩ := hlen
      rw [List.take_length] at hy
      go_wp2
      go_end0
      exact ⟨rfl, hy.out, hf.out⟩
end Go.Proofs.YtiefgmgjlhjjhaaDoor
