import Derived.Test.YtacimelcmkhhlaaJn
set_option linter.unusedVariables false
set_option linter.unusedSimpArgs false
namespace Go.Proofs.Ytacimelcmkhhlaa
open Go.RowKit

theorem st5 {w : World} {ad : Addr} {v0 : Value} (u : UInt8) (hc : w.cell? ad = some v0) (hf : w.frozen? ad = false) : (Instr.storeAt 5 (.pointer (some ad)) (byt u)).run Try.prog w = .ok () (w.setCell ad (byt u)) := by
  unfold byt
  go_simp
/-- 'append' of any bytes to none. -/
theorem app_nil {w : World} {v : Value} {bs : List UInt8} (h : Has w v bs) (hl : bs.length ≤ 140737488355328) (ty : TypeId) : ∃ v' w', (Builtin.append_ #[38, 38] ty #[.slice none 0 0, v]).run Try.prog w = .ok v' w' ∧ Ob w' w.heap.size v' bs ∧ Below w.heap.size w w' := by
  have h0 : Own w w.heap.size (.slice none 0 0) [] := ⟨rfl, .inl ⟨rfl, rfl⟩⟩
  rcases h with ⟨rfl, rfl⟩ | ⟨ad, cap, rfl, h2, h3⟩
  · obtain ⟨i, hi, hz0, hz1, hz2⟩ := info_parts Try.info5
    exact ⟨_, w, run_append_owned_none (P := Try.prog) w 0 38 ty 5 i 1 Try.underlying38 hi _ 0 [] ⟨rfl, .inl ⟨rfl, rfl⟩⟩, Ob.nil _ _, Below.refl _ _⟩
  · obtain ⟨v', w', r1, r2, r3⟩ := run_app w w.heap.size _ [] h0 ad cap bs h3 (by simp; omega) (Nat.le_refl _) ty
    exact ⟨v', w', r1, by simpa using r2.ob, (grown_fx r3).below (fun k hk e => by cases e) (Nat.le_refl _)⟩
theorem Ob.push1 {w : World} {b : Nat} {v : Value} {bs : List UInt8} (h : Ob w b v bs) (hbw : b ≤ w.heap.size) (t : UInt8) (hl : bs.length + 1 ≤ 1000000000) (ty : TypeId) (g : Nat) (hg : Has w (.slice (some ⟨g, 0, none⟩) 1 1) [t]) : ∃ v' w', (Builtin.append_ #[38, 38] ty #[v, .slice (some ⟨g, 0, none⟩) 1 1]).run Try.prog w = .ok v' w' ∧ Ob w' b v' (bs ++ [t]) ∧ Below b w w' := by
  obtain ⟨v', w', r1, r2, r3, r4⟩ := h.push hbw _ _ hg hl ty
  exact ⟨v', w', r1, r2, r3.below (fun k hk e => by have := h.base k e; omega) hbw⟩
def cut3V (v : Value) (k : Nat) : Value := match v with
  | .slice a _ _ => sliced a 0 k k 1
  | v => v
theorem Has.cut3 {w : World} {v : Value} {bs : List UInt8} (h : Has w v bs) (k : Nat) (hk : k ≤ bs.length) : Has w (cut3V v k) (bs.take k) := by
  have hlen : (bs.take k).length = k := by rw [List.length_take]; omega
  rcases h with ⟨rfl, rfl⟩ | ⟨ad, cap, rfl, h2, h3⟩
  · simp only [List.length_nil, Nat.le_zero] at hk
    subst hk
    exact .inl ⟨rfl, rfl⟩
  · by_cases hz : k = 0
    · subst hz
      exact .inr ⟨ad, 0, rfl, Nat.le_refl _, fun i u hu => by simp at hu⟩
    · refine .inr ⟨ad, k, ?_, by rw [hlen]; exact Nat.le_refl _, fun i u hu => ?_⟩
      · rw [hlen]
        show sliced (some ad) 0 k k 1 = _
        unfold sliced
        rw [if_neg hz]
        have e0 : ad.add 0 = ad := by unfold Addr.add; rw [if_pos rfl]
        simp [e0]
      · exact h3 i u (by
          have := (List.getElem?_eq_some_iff.1 hu).1
          rw [List.getElem?_take_of_lt (by omega)] at hu
          exact hu)
theorem Has.cut3r {w : World} {v : Value} {bs : List UInt8} (h : Has w v bs) (k : Nat) (hk : k ≤ bs.length) (W : World) : (Instr.slice 38 v none (some (.int .i64 k)) (some (.int .i64 k))).run Try.prog W = .ok (cut3V v k) W := by
  have ht : Try.prog.underlying 38 = some (.slice (Try.prog.elem 38)) := by rw [elem38]; exact Try.underlying38
  obtain ⟨ao, cap, rfl, hc⟩ : ∃ ao cap, v = .slice ao bs.length cap ∧ bs.length ≤ cap := by
    rcases h with ⟨rfl, rfl⟩ | ⟨ad, cap, rfl, h2, _⟩
    · exact ⟨none, 0, rfl, Nat.le_refl _⟩
    · exact ⟨some ad, cap, rfl, h2⟩
  rw [run_slice_hm W 38 ao _ cap ht .i64 .i64 k k (by omega) (by omega) (by omega), elem38, size5]
  simp [Result.andThen, cut3V]
theorem Ob.setAtF {w : World} {b : Nat} {v : Value} {bs : List UInt8} (h : Ob w b v bs) (i : Nat) (hi : i < bs.length) (u : UInt8) : ∃ ad w', (∀ W, (Instr.indexAt 38 v (.int .i64 (i : Int))).run Try.prog W = .ok (.pointer (some ad)) W) ∧ (Instr.storeAt 5 (.pointer (some ad)) (byt u)).run Try.prog w = .ok () w' ∧ Ob w' b v (bs.set i u) ∧ Fx (fun k => v.ownBlock = some k) w w' := by
  obtain ⟨hx, ⟨rfl, h0⟩ | ⟨g, cp, cur, rfl, hg, hh2, hnc, hc, hs, htk⟩⟩ := h.row
  · simp only [h0] at hi; omega
  · have hcur : i < cur.size := by simp at hs; omega
    have hcell : w.cell? ⟨g, i, none⟩ = some cur[i] := by
      have := (show Blk w g cur.toList 5 from by unfold Blk; simpa using hh2).cell i
      rw [this, Array.getElem?_toList, Array.getElem?_eq_getElem hcur]
    have hbl : Blk w g cur.toList 5 := by unfold Blk; simpa using hh2
    refine ⟨⟨g, i, none⟩, w.setCell ⟨g, i, none⟩ (byt u), fun W => ?_, st5 u hcell (hbl.frozen i), ?_, (Fx.setCell (S := fun k => k = g) _ _ _ _ rfl).mono (fun k _ e => by rw [show k = g from e]; rfl)⟩
    · have := idx38 ⟨g, 0, none⟩ bs.length cp i hi W
      rwa [add_plain] at this
    · refine ⟨⟨by simp, .inr ⟨g, cp, (cur.toList.set i (byt u)).toArray, by simp, hg, ?_, by simpa using hnc, hc, by simpa using hs, ?_⟩⟩, fun k hk => h.base k (by simpa [Value.ownBlock] using hk)⟩
      · have := hbl.set i (byt u)
        exact this
      · have e1 : (bs.set i u).map byt = (bs.map byt).set i (byt u) := by rw [List.map_set]
        rw [e1, List.length_set, ← htk]
        simp [List.take_set]
section
variable {P : Program} {n : Fm} {ops : Array Oper} {Q : Exit → Act → World → Prop} {i : Nat} {ty : TypeId} {ps : String} {af : Array Edge} {gd : Option (Nat × Bool)} {r : List Oper} {e : List (Nat × Value)} {w : World}
theorem WL.slice3 {t : TypeId} {x lo mx : Operand} {u ul um v : Value} (hw : wantE ops e ⟨some i, .slice t x none (some lo) (some mx), ty, ps, af, gd⟩ = some true) (hi : decide (i < n.k) = true) (hx : evE e x = some u) (hl : evE e lo = some ul) (hm : evE e mx = some um) (hr : (Instr.sliceAt t u none (some ul) (some um)).run P w = .ok v w) (k : WL P n ops Q r ((i, v) :: e) w) : WL P n ops Q (⟨some i, .slice t x none (some lo) (some mx), ty, ps, af, gd⟩ :: r) e w :=
  WL.op i v hw rfl hi (fun a ha => by simp [execOp, ha.ev hx, ha.ev hl, ha.ev hm, hr, Result.andThen]) k
end
/-- A byte that is neither 0 nor 1. -/
def mo (t : UInt8) : UInt8 := UInt8.ofNat (2 + t.toNat % 100)
theorem mo_nat (t : UInt8) : (mo t).toNat = 2 + t.toNat % 100 := by unfold mo; rw [UInt8.toNat_ofNat', Nat.mod_eq_of_lt (by omega)]
theorem u8_rem (t : UInt8) (W : World) (x y : Operand) : (do eqGuard .rem 5 x y (byt t) (.int .u8 100); binOp .rem 5 (byt t) (.int .u8 100) : Sem Value).run Try.prog W = .ok (.int .u8 ((t.toNat % 100 : Nat) : Int)) W := by
  have e : ((t.toNat % 100 : Nat) : Int) = Int.tmod (t.toNat : Int) 100 := by rw [Int.tmod_eq_emod_of_nonneg (by omega)]; rfl
  unfold byt
  rw [e]
  go_simp
theorem u8_add (t : UInt8) (W : World) (x y : Operand) : (do eqGuard .add 5 x y (.int .u8 2) (.int .u8 ((t.toNat % 100 : Nat) : Int)); binOp .add 5 (.int .u8 2) (.int .u8 ((t.toNat % 100 : Nat) : Int)) : Sem Value).run Try.prog W = .ok (byt (mo t)) W := by
  unfold byt
  rw [mo_nat]
  go_simp
  try simp only [IntKind.wrap_u8]
  try omega
set_option maxRecDepth 100000 in
set_option maxHeartbeats 4000000 in
theorem cut_any (s : Sg) (ks : s.ok) (hel : Bool) (cut : Int) (tl : UInt8) (w : World) : Calls Try.prog 6 #[s.v, .bool hel, .int .i64 cut, byt tl] w fun e w' => e = .returned (.bool true) ∧ Below w.heap.size w w' := by
  obtain ⟨S, hS⟩ : ∃ S, mayD s hel = S := ⟨_, rfl⟩
  have kS : S.ok := by rw [← hS]; exact may_ok ks _
  have gS : Good S := by rw [← hS]; exact good_may ks _
  have hlen := enc_len kS gS
  obtain ⟨_, _, _, _, h5⟩ := enc_back kS gS
  have hat0 : atP S < (encD S).length := by rw [h5]; split <;> omega
  have hah : List.take (atP S - 0) (List.drop 0 (encD S)) = ahP S := by rw [enc_ah, List.drop_zero, Nat.sub_zero, ← ahP_len kS, List.take_left]
  obtain ⟨w1, q1, r1, b1, e1, hq1⟩ := box_any 33 s.cs w
  have l1' := e1.size
  have hb1 := b1.lt
  refine calls_of_args [s.v, .bool hel, .int .i64 cut, byt tl] Try.func6 rfl 115 Try.ntmps6 (by show 4 ≤ 115; decide) ?_
  refine EW.seq ?_
  refine EW.region ?_
  refine WL.box rfl rfl rfl r1 ?_
  first | refine WL.assign rfl rfl rfl ?_
  refine WL.done ?_
  refine EW.on ?_
  refine EW.seq ?_
  refine EW.region ?_
  refine WL.load rfl rfl rfl (Sg.ld b1 ks) ?_
  first | refine WL.move rfl rfl rfl ?_
  refine WL.call [s.v, .bool hel] enter9 rfl rfl rfl (hS ▸ may_any s ks hel _) ?_
  rintro _ w2 ⟨rfl, e2⟩
  refine ⟨_, rfl, ?_⟩
  obtain ⟨w3, s3, b3, f3⟩ := Sg.st (s := S) (b1.on e2) ks kS
  refine WL.store rfl rfl rfl s3 ?_
  have l3 := bfx (bt e1 e2) (by omega) f3
  refine WL.done ?_
  refine EW.on ?_
  refine EW.seq ?_
  refine EW.region ?_
  refine WL.load rfl rfl rfl (Sg.ld b3 kS) ?_
  refine WL.call [S.v] enter12 rfl rfl rfl (encode_any S kS _) ?_
  rintro _ w4 ⟨vb, rfl, ob_4, e4⟩
  rw [if_pos gS] at ob_4
  rw [chkD, if_pos gS]
  have bs_4 := b3.on e4
  have l_4 := bt l3 e4
  refine ⟨_, rfl, ?_⟩
  first | refine WL.move rfl rfl rfl ?_
  first | refine WL.extract rfl rfl rfl (ext_2 _ _ _).1 ?_
  first | refine WL.extract rfl rfl rfl (ext_2 _ _ _).2 ?_
  first | refine WL.assign rfl rfl rfl ?_
  first | refine WL.assign rfl rfl rfl ?_
  refine WL.done ?_
  refine EW.on ?_
  refine EW.seq ?_
  refine EW.seq ?_
  refine EW.region ?_
  first | refine WL.move rfl rfl rfl ?_
  refine WL.bin rfl rfl rfl rfl (int_ne_f rfl _ _ _) ?_
  first | refine WL.move rfl rfl rfl ?_
  first | refine WL.move rfl rfl rfl ?_ | refine WL.skip _ rfl rfl rfl ?_
  refine WL.len rfl rfl rfl (ob_4.has.len _ _) ?_
  refine WL.bin rfl rfl rfl rfl (int_lt_f (by omega) _ _ _) ?_
  first | refine WL.pick rfl rfl rfl rfl ?_
  refine WL.done ?_
  refine EW.on ?_
  refine EW.cond_f rfl ?_
  refine EW.skip ?_
  refine EW.on ?_
  refine EW.seq ?_
  refine EW.region ?_
  first | refine WL.move rfl rfl rfl ?_
  first | refine WL.move rfl rfl rfl ?_
  refine WL.len rfl rfl rfl (ob_4.has.len _ _) ?_
  refine WL.call [.int .i64 cut, .int .i64 ((encD S).length : Int)] enter11 rfl rfl rfl (rest_any cut (encD S).length (by omega) (by omega) _) ?_
  rintro _ _ ⟨rfl, rfl⟩
  obtain ⟨K, hKe⟩ : ∃ K, rsD cut (encD S).length = K := ⟨_, rfl⟩
  have hK : K < (encD S).length := by rw [← hKe]; exact (rsD_lt cut (by omega)).1
  rw [hKe]
  refine ⟨_, rfl, ?_⟩
  first | refine WL.assign rfl rfl rfl ?_
  refine WL.done ?_
  refine EW.on ?_
  refine EW.seq ?_
  refine EW.region ?_
  first | refine WL.move rfl rfl rfl ?_
  first | refine WL.move rfl rfl rfl ?_
  first | refine WL.move rfl rfl rfl ?_
  refine WL.slice3 rfl rfl rfl rfl rfl (by rw [sl22]; exact ob_4.has.cut3r K (by omega) _) ?_
  refine WL.call [(cut3V vb K)] enter16 rfl rfl rfl (decode_any (cut3V vb K) ((encD S).take K) _ (ob_4.has.cut3 K (by omega)) (by first | (rw [List.length_take]; omega) | (simp only [List.length_append, List.length_take, List.length_drop, List.length_set, List.length_cons, List.length_nil, ahP_len kS]; omega))) ?_
  rintro _ w11 ⟨rfl, e11⟩
  rw [enc_cut kS gS hK]
  refine ⟨_, rfl, ?_⟩
  have ob_11 := ob_4.below e11
  have bs_11 := bs_4.on e11
  have l_11 := bt l_4 e11
  first | refine WL.move rfl rfl rfl ?_
  first | refine WL.extract rfl rfl rfl (ext_2 _ _ _).1 ?_
  first | refine WL.extract rfl rfl rfl (ext_2 _ _ _).2 ?_
  obtain ⟨q12, wa12, w12, r12, s12, b12, e12, hq12⟩ := putS (decS_ok ((encD S).take K)) w11
  refine WL.new rfl rfl r12 ?_
  refine WL.store rfl rfl rfl s12 ?_
  have ob_12 := ob_11.below e12
  have bs_12 := bs_11.on e12
  have l_12 := bt l_11 e12
  first | refine WL.assign rfl rfl rfl ?_
  refine WL.done ?_
  refine EW.on ?_
  refine EW.seq ?_
  refine EW.region ?_
  first | refine WL.move rfl rfl rfl ?_
  obtain ⟨vu, w13, ap13, ou_13, e13⟩ := app_nil ob_12.has (by first | omega | (simp only [List.length_take, List.length_drop]; omega)) 38
  refine WL.app rfl rfl rfl rfl ap13 ?_
  have ob_13 := ob_12.below e13
  have bs_13 := bs_12.on e13
  have l_13 := bt l_12 e13
  first | refine WL.move rfl rfl rfl ?_
  have e14 := below_new w13 (.cells ([tl].map byt).toArray 5)
  refine WL.bslN [(0, byt tl)] rfl rfl rfl (bsl22_1 tl _) ?_
  obtain ⟨w14, hw14⟩ : ∃ W, w13.alloc (.cells ([tl].map byt).toArray 5) = W := ⟨_, rfl⟩
  have bg14 := Blk.new w13 ([tl].map byt) 5
  rw [hw14] at e14 bg14 ⊢
  have hg7 := Has.new bg14 1 (Nat.le_refl 1)
  obtain ⟨g7, hgg7⟩ : ∃ g, w13.heap.size = g := ⟨_, rfl⟩
  rw [hgg7] at hg7 ⊢
  have ob_14 := ob_13.below e14
  have ou_14 := ou_13.below e14
  have bs_14 := bs_13.on e14
  have l_14 := bt l_13 e14
  obtain ⟨vx7, w15, ap15, ox_15, e15'⟩ := ou_14.push1 (by have h1 := e13.size; have h2 := e14.size; omega) tl (by first | omega | (simp only [List.length_take, List.length_drop]; omega)) 38 g7 hg7
  refine WL.app rfl rfl rfl rfl ap15 ?_
  have e15 := (bt e13 e14).trans e15'
  have ob_15 := ob_12.below e15
  have bs_15 := bs_12.on e15
  have l_15 := bt l_12 e15
  refine WL.call [vx7] enter16 rfl rfl rfl (decode_any vx7 (encD S ++ [tl]) _ ox_15.has (by first | (rw [List.length_take]; omega) | (simp only [List.length_append, List.length_take, List.length_drop, List.length_set, List.length_cons, List.length_nil, ahP_len kS]; omega))) ?_
  rintro _ w16 ⟨rfl, e16⟩
  rw [enc_tail kS gS (t := [tl]) (by show 0 < 1; decide)]
  refine ⟨_, rfl, ?_⟩
  have ob_16 := ob_15.below e16
  have ox_16 := ox_15.below e16
  have bs_16 := bs_15.on e16
  have l_16 := bt l_15 e16
  first | refine WL.move rfl rfl rfl ?_
  first | refine WL.extract rfl rfl rfl (ext_2 _ _ _).1 ?_
  first | refine WL.extract rfl rfl rfl (ext_2 _ _ _).2 ?_
  obtain ⟨q17, wa17, w17, r17, s17, b17, e17, hq17⟩ := putS (decS_ok (encD S ++ [tl])) w16
  refine WL.new rfl rfl r17 ?_
  refine WL.store rfl rfl rfl s17 ?_
  have ob_17 := ob_16.below e17
  have ox_17 := ox_16.below e17
  have bs_17 := bs_16.on e17
  have l_17 := bt l_16 e17
  first | refine WL.assign rfl rfl rfl ?_
  refine WL.done ?_
  refine EW.on ?_
  refine EW.seq ?_
  refine EW.region ?_
  first | refine WL.move rfl rfl rfl ?_
  obtain ⟨vc, w18, ap18, oc_18, e18⟩ := app_nil ob_17.has (by first | omega | (simp only [List.length_take, List.length_drop]; omega)) 38
  refine WL.app rfl rfl rfl rfl ap18 ?_
  have ob_18 := ob_17.below e18
  have ox_18 := ox_17.below e18
  have bs_18 := bs_17.on e18
  have l_18 := bt l_17 e18
  first | refine WL.assign rfl rfl rfl ?_
  refine WL.done ?_
  refine EW.on ?_
  refine EW.seq ?_
  refine EW.region ?_
  first | refine WL.move rfl rfl rfl ?_
  first | refine WL.move rfl rfl rfl ?_
  refine WL.bin rfl rfl rfl rfl (u8_rem tl _ _ _) ?_
  refine WL.bin rfl rfl rfl rfl (u8_add tl _ _ _) ?_
  obtain ⟨ad19, w19, ix19, st19, oc_19, e19⟩ := oc_18.setAtF 0 (by omega) (mo tl)
  refine WL.index rfl rfl rfl rfl (ix19 _) ?_
  refine WL.store rfl rfl rfl st19 ?_
  have hcb : ∀ k, vc.ownBlock = some k → w17.heap.size ≤ k := oc_18.base
  have ob_19 := ob_18.fx e19 (fun k hk e => by have h1 := hcb k hk; have h2 := (ob_17.lt e).1; omega)
  have bs_19 := bs_18.fx e19 (fun e => by have h1 := hcb _ e; have h2 := bs_17.lt; omega)
  have l_19 := l_18.trans (e19.below (fun k hk e => by have h1 := hcb k e; have h2 := l_17.size; omega) l_18.size)
  refine WL.done ?_
  refine EW.on ?_
  refine EW.seq ?_
  refine EW.region ?_
  first | refine WL.move rfl rfl rfl ?_
  first | refine WL.move rfl rfl rfl ?_
  first | refine WL.move rfl rfl rfl ?_
  refine WL.len rfl rfl rfl (oc_19.has.len _ _) ?_
  refine WL.call [.int .i64 cut, .int .i64 (((encD S).set 0 (mo tl)).length : Int)] enter11 rfl rfl rfl (rest_any cut ((encD S).set 0 (mo tl)).length (by rw [List.length_set]; omega) (by rw [List.length_set]; omega) _) ?_
  rintro _ _ ⟨rfl, rfl⟩
  rw [List.length_set, hKe]
  refine ⟨_, rfl, ?_⟩
  refine WL.bin rfl rfl rfl rfl (int_add (c := ((1 + K : Nat) : Int)) (by rw [IntKind.wrap_i64]; omega) _ _ _) ?_
  refine WL.sliceH rfl rfl rfl rfl (by rw [sl22]; exact oc_19.has.cutH (1 + K) (by rw [List.length_set]; omega) _) ?_
  refine WL.call [(cutV vc 0 (1 + K))] enter16 rfl rfl rfl (decode_any (cutV vc 0 (1 + K)) ((((encD S).set 0 (mo tl)).drop 0).take (1 + K - 0)) _ (oc_19.has.cut 0 (1 + K) (by omega) (by rw [List.length_set]; omega)) (by first | (rw [List.length_take]; omega) | (simp only [List.length_append, List.length_take, List.length_drop, List.length_set, List.length_cons, List.length_nil, ahP_len kS]; omega))) ?_
  rintro _ w20 ⟨rfl, e20⟩
  rw [dec_ver (x := mo tl) (by rw [List.drop_zero, List.getElem?_take_of_lt (by omega), List.getElem?_set_self (by omega)]) (by rw [mo_nat]; omega)]
  refine ⟨_, rfl, ?_⟩
  have ob_20 := ob_19.below e20
  have oc_20 := oc_19.below e20
  have bs_20 := bs_19.on e20
  have l_20 := bt l_19 e20
  first | refine WL.move rfl rfl rfl ?_
  first | refine WL.extract rfl rfl rfl (ext_2 _ _ _).1 ?_
  first | refine WL.extract rfl rfl rfl (ext_2 _ _ _).2 ?_
  obtain ⟨q21, wa21, w21, r21, s21, b21, e21, hq21⟩ := putS (decS_ok ((((encD S).set 0 (mo tl)).drop 0).take (1 + K - 0))) w20
  refine WL.new rfl rfl r21 ?_
  refine WL.store rfl rfl rfl s21 ?_
  have ob_21 := ob_20.below e21
  have oc_21 := oc_20.below e21
  have bs_21 := bs_20.on e21
  have l_21 := bt l_20 e21
  first | refine WL.assign rfl rfl rfl ?_
  refine WL.done ?_
  refine EW.on ?_
  refine EW.seq ?_
  refine EW.region ?_
  first | refine WL.move rfl rfl rfl ?_
  refine WL.len rfl rfl rfl (ob_21.has.len _ _) ?_
  refine WL.bin rfl rfl rfl rfl (int_sub (c := (((encD S).length - 1 : Nat) : Int)) (by rw [IntKind.wrap_i64]; omega) _ _ _) ?_
  first | refine WL.assign rfl rfl rfl ?_
  refine WL.done ?_
  refine EW.on ?_
  refine EW.seq ?_
  refine EW.seq ?_
  by_cases hz : S.hl = Hl.z
  · have hat : (encD S).length - 1 = atP S := by rw [h5, if_pos hz]; omega
    rw [hat]
    refine EW.region ?_
    first | refine WL.field rfl rfl rfl (f33_12 q1 _) ?_
    first | refine WL.load rfl rfl rfl (Sg.ld_hl bs_21 kS) ?_
    first | refine WL.buildN [] rfl rfl rfl (bd30 _) ?_
    refine WL.bin rfl rfl rfl rfl ((neq30 _ _ kS.hl Hl.z_ok _ _ _).trans (by rw [decide_eq_false (fun h => h hz)])) ?_
    refine WL.done ?_
    refine EW.on ?_
    refine EW.cond_f rfl ?_
    refine EW.skip ?_
    refine EW.on ?_
    refine EW.seq ?_
    refine EW.region ?_
    first | refine WL.move rfl rfl rfl ?_
    first | refine WL.move rfl rfl rfl ?_
    refine WL.sliceH rfl rfl rfl rfl (by rw [sl22]; exact ob_21.has.cutH (atP S) (by omega) _) ?_
    obtain ⟨vd, w22, ap22, od_22, e22⟩ := app_nil (ob_21.has.cut 0 (atP S) (by omega) (by omega)) (by first | omega | (simp only [List.length_take, List.length_drop]; omega)) 38
    refine WL.app rfl rfl rfl rfl ap22 ?_
    have ob_22 := ob_21.below e22
    have oc_22 := oc_21.below e22
    have bs_22 := bs_21.on e22
    have l_22 := bt l_21 e22
    first | refine WL.assign rfl rfl rfl ?_
    refine WL.done ?_
    refine EW.on ?_
    refine EW.seq ?_
    refine EW.region ?_
    first | refine WL.move rfl rfl rfl ?_
    first | refine WL.move rfl rfl rfl ?_
    refine WL.bin rfl rfl rfl rfl (u8_rem tl _ _ _) ?_
    refine WL.bin rfl rfl rfl rfl (u8_add tl _ _ _) ?_
    have e23 := below_new w22 (.cells ([(mo tl)].map byt).toArray 5)
    refine WL.bslN [(0, byt (mo tl))] rfl rfl rfl (bsl22_1 (mo tl) _) ?_
    obtain ⟨w23, hw23⟩ : ∃ W, w22.alloc (.cells ([(mo tl)].map byt).toArray 5) = W := ⟨_, rfl⟩
    have bg23 := Blk.new w22 ([(mo tl)].map byt) 5
    rw [hw23] at e23 bg23 ⊢
    have hg15 := Has.new bg23 1 (Nat.le_refl 1)
    obtain ⟨g15, hgg15⟩ : ∃ g, w22.heap.size = g := ⟨_, rfl⟩
    rw [hgg15] at hg15 ⊢
    have ob_23 := ob_22.below e23
    have oc_23 := oc_22.below e23
    have od_23 := od_22.below e23
    have bs_23 := bs_22.on e23
    have l_23 := bt l_22 e23
    obtain ⟨vx15, w24, ap24, oy_24, e24'⟩ := od_23.push1 (by have h1 := e22.size; have h2 := e23.size; omega) (mo tl) (by first | omega | (simp only [List.length_take, List.length_drop]; omega)) 38 g15 hg15
    refine WL.app rfl rfl rfl rfl ap24 ?_
    have e24 := (bt e22 e23).trans e24'
    have ob_24 := ob_21.below e24
    have oc_24 := oc_21.below e24
    have bs_24 := bs_21.on e24
    have l_24 := bt l_21 e24
    rw [show List.take (atP S - 0) (List.drop 0 (encD S)) = ahP S from hah] at oy_24
    refine WL.call [vx15] enter16 rfl rfl rfl (decode_any vx15 (ahP S ++ [mo tl]) _ oy_24.has (by first | (rw [List.length_take]; omega) | (simp only [List.length_append, List.length_take, List.length_drop, List.length_set, List.length_cons, List.length_nil, ahP_len kS]; omega))) ?_
    rintro _ w25 ⟨rfl, e25⟩
    rw [show decE (ahP S ++ [mo tl]) = 180 from dec_mark kS (x := mo tl) (by rw [mo_nat]; omega) []]
    refine ⟨_, rfl, ?_⟩
    have ob_25 := ob_24.below e25
    have oc_25 := oc_24.below e25
    have oy_25 := oy_24.below e25
    have bs_25 := bs_24.on e25
    have l_25 := bt l_24 e25
    first | refine WL.move rfl rfl rfl ?_
    first | refine WL.extract rfl rfl rfl (ext_2 _ _ _).1 ?_
    first | refine WL.extract rfl rfl rfl (ext_2 _ _ _).2 ?_
    obtain ⟨q26, wa26, w26, r26, s26, b26, e26, hq26⟩ := putS (decS_ok (ahP S ++ [mo tl])) w25
    refine WL.new rfl rfl r26 ?_
    refine WL.store rfl rfl rfl s26 ?_
    have ob_26 := ob_25.below e26
    have oc_26 := oc_25.below e26
    have oy_26 := oy_25.below e26
    have bs_26 := bs_25.on e26
    have l_26 := bt l_25 e26
    first | refine WL.assign rfl rfl rfl ?_
    refine WL.done ?_
    refine EW.on ?_
    refine EW.seq ?_
    refine EW.region ?_
    first | refine WL.move rfl rfl rfl ?_
    refine WL.bin rfl rfl rfl rfl (int_eq_t rfl _ _ _) ?_
    first | refine WL.move rfl rfl rfl ?_
    first | refine WL.move rfl rfl rfl ?_ | refine WL.skip _ rfl rfl rfl ?_
    refine WL.bin rfl rfl rfl rfl (int_eq_t rfl _ _ _) ?_
    first | refine WL.pick rfl rfl rfl rfl ?_
    first | refine WL.move rfl rfl rfl ?_
    first | refine WL.move rfl rfl rfl ?_ | refine WL.skip _ rfl rfl rfl ?_
    refine WL.bin rfl rfl rfl rfl (int_eq_t rfl _ _ _) ?_
    first | refine WL.pick rfl rfl rfl rfl ?_
    first | refine WL.move rfl rfl rfl ?_
    first | refine WL.move rfl rfl rfl ?_ | refine WL.skip _ rfl rfl rfl ?_
    refine WL.bin rfl rfl rfl rfl (int_eq_t rfl _ _ _) ?_
    first | refine WL.pick rfl rfl rfl rfl ?_
    first | refine WL.assign rfl rfl rfl ?_
    refine WL.done ?_
    refine EW.on ?_
    refine EW.ret ?_
    exact EW.returns Try.results6 rfl ⟨rfl, l_26⟩
  · have hat : (encD S).length = atP S + 37 := by rw [h5, if_neg hz]
    refine EW.region ?_
    first | refine WL.field rfl rfl rfl (f33_12 q1 _) ?_
    first | refine WL.load rfl rfl rfl (Sg.ld_hl bs_21 kS) ?_
    first | refine WL.buildN [] rfl rfl rfl (bd30 _) ?_
    refine WL.bin rfl rfl rfl rfl ((neq30 _ _ kS.hl Hl.z_ok _ _ _).trans (by rw [decide_eq_true hz])) ?_
    refine WL.done ?_
    refine EW.on ?_
    refine EW.cond_t rfl ?_
    refine EW.region ?_
    first | refine WL.move rfl rfl rfl ?_
    refine WL.len rfl rfl rfl (ob_21.has.len _ _) ?_
    refine WL.bin rfl rfl rfl rfl (int_sub (c := ((atP S : Nat) : Int)) (by rw [IntKind.wrap_i64]; omega) _ _ _) ?_
    first | refine WL.assign rfl rfl rfl ?_
    refine WL.done ?_
    refine EW.on ?_
    refine EW.seq ?_
    refine EW.region ?_
    first | refine WL.move rfl rfl rfl ?_
    first | refine WL.move rfl rfl rfl ?_
    refine WL.sliceH rfl rfl rfl rfl (by rw [sl22]; exact ob_21.has.cutH (atP S) (by omega) _) ?_
    obtain ⟨vd, w22, ap22, od_22, e22⟩ := app_nil (ob_21.has.cut 0 (atP S) (by omega) (by omega)) (by first | omega | (simp only [List.length_take, List.length_drop]; omega)) 38
    refine WL.app rfl rfl rfl rfl ap22 ?_
    have ob_22 := ob_21.below e22
    have oc_22 := oc_21.below e22
    have bs_22 := bs_21.on e22
    have l_22 := bt l_21 e22
    first | refine WL.assign rfl rfl rfl ?_
    refine WL.done ?_
    refine EW.on ?_
    refine EW.seq ?_
    refine EW.region ?_
    first | refine WL.move rfl rfl rfl ?_
    first | refine WL.move rfl rfl rfl ?_
    refine WL.bin rfl rfl rfl rfl (u8_rem tl _ _ _) ?_
    refine WL.bin rfl rfl rfl rfl (u8_add tl _ _ _) ?_
    have e23 := below_new w22 (.cells ([(mo tl)].map byt).toArray 5)
    refine WL.bslN [(0, byt (mo tl))] rfl rfl rfl (bsl22_1 (mo tl) _) ?_
    obtain ⟨w23, hw23⟩ : ∃ W, w22.alloc (.cells ([(mo tl)].map byt).toArray 5) = W := ⟨_, rfl⟩
    have bg23 := Blk.new w22 ([(mo tl)].map byt) 5
    rw [hw23] at e23 bg23 ⊢
    have hg15 := Has.new bg23 1 (Nat.le_refl 1)
    obtain ⟨g15, hgg15⟩ : ∃ g, w22.heap.size = g := ⟨_, rfl⟩
    rw [hgg15] at hg15 ⊢
    have ob_23 := ob_22.below e23
    have oc_23 := oc_22.below e23
    have od_23 := od_22.below e23
    have bs_23 := bs_22.on e23
    have l_23 := bt l_22 e23
    obtain ⟨vx15, w24, ap24, oy_24, e24'⟩ := od_23.push1 (by have h1 := e22.size; have h2 := e23.size; omega) (mo tl) (by first | omega | (simp only [List.length_take, List.length_drop]; omega)) 38 g15 hg15
    refine WL.app rfl rfl rfl rfl ap24 ?_
    have e24 := (bt e22 e23).trans e24'
    have ob_24 := ob_21.below e24
    have oc_24 := oc_21.below e24
    have bs_24 := bs_21.on e24
    have l_24 := bt l_21 e24
    rw [show List.take (atP S - 0) (List.drop 0 (encD S)) = ahP S from hah] at oy_24
    refine WL.call [vx15] enter16 rfl rfl rfl (decode_any vx15 (ahP S ++ [mo tl]) _ oy_24.has (by first | (rw [List.length_take]; omega) | (simp only [List.length_append, List.length_take, List.length_drop, List.length_set, List.length_cons, List.length_nil, ahP_len kS]; omega))) ?_
    rintro _ w25 ⟨rfl, e25⟩
    rw [show decE (ahP S ++ [mo tl]) = 180 from dec_mark kS (x := mo tl) (by rw [mo_nat]; omega) []]
    refine ⟨_, rfl, ?_⟩
    have ob_25 := ob_24.below e25
    have oc_25 := oc_24.below e25
    have oy_25 := oy_24.below e25
    have bs_25 := bs_24.on e25
    have l_25 := bt l_24 e25
    first | refine WL.move rfl rfl rfl ?_
    first | refine WL.extract rfl rfl rfl (ext_2 _ _ _).1 ?_
    first | refine WL.extract rfl rfl rfl (ext_2 _ _ _).2 ?_
    obtain ⟨q26, wa26, w26, r26, s26, b26, e26, hq26⟩ := putS (decS_ok (ahP S ++ [mo tl])) w25
    refine WL.new rfl rfl r26 ?_
    refine WL.store rfl rfl rfl s26 ?_
    have ob_26 := ob_25.below e26
    have oc_26 := oc_25.below e26
    have oy_26 := oy_25.below e26
    have bs_26 := bs_25.on e26
    have l_26 := bt l_25 e26
    first | refine WL.assign rfl rfl rfl ?_
    refine WL.done ?_
    refine EW.on ?_
    refine EW.seq ?_
    refine EW.region ?_
    first | refine WL.move rfl rfl rfl ?_
    refine WL.bin rfl rfl rfl rfl (int_eq_t rfl _ _ _) ?_
    first | refine WL.move rfl rfl rfl ?_
    first | refine WL.move rfl rfl rfl ?_ | refine WL.skip _ rfl rfl rfl ?_
    refine WL.bin rfl rfl rfl rfl (int_eq_t rfl _ _ _) ?_
    first | refine WL.pick rfl rfl rfl rfl ?_
    first | refine WL.move rfl rfl rfl ?_
    first | refine WL.move rfl rfl rfl ?_ | refine WL.skip _ rfl rfl rfl ?_
    refine WL.bin rfl rfl rfl rfl (int_eq_t rfl _ _ _) ?_
    first | refine WL.pick rfl rfl rfl rfl ?_
    first | refine WL.move rfl rfl rfl ?_
    first | refine WL.move rfl rfl rfl ?_ | refine WL.skip _ rfl rfl rfl ?_
    refine WL.bin rfl rfl rfl rfl (int_eq_t rfl _ _ _) ?_
    first | refine WL.pick rfl rfl rfl rfl ?_
    first | refine WL.assign rfl rfl rfl ?_
    refine WL.done ?_
    refine EW.on ?_
    refine EW.ret ?_
    exact EW.returns Try.results6 rfl ⟨rfl, l_26⟩
end Go.Proofs.Ytacimelcmkhhlaa
