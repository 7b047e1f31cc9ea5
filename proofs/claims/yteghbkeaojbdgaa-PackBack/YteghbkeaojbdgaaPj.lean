import Derived.Test.YteghbkeaojbdgaaPi
set_option linter.unusedVariables false
set_option linter.unusedSimpArgs false
namespace Go.Proofs.Yteghbkeaojbdgaa
open Go.RowKit

theorem Ls.single {w : World} {q : Nat} {x : RV} (hb : Blk w q x.cs 32) (hx : x.ok w) : Ls w (.slice (some ⟨q, 0, none⟩) 1 1) [x] := by
  refine ⟨.inr ⟨_, 1, rfl, Nat.le_refl _, fun i r hi j u hj => ?_⟩, fun r hr => by rw [List.mem_singleton.1 hr]; exact hx⟩
  have h0 : i = 0 := by
    have := (List.getElem?_eq_some_iff.1 hi).1
    simpa using this
  subst h0
  have e : x = r := by simpa using hi
  subst e
  rw [Nat.mul_zero, addr_add, Nat.zero_add, add_plain, hb.cell]; exact hj
theorem isAt_lt {ds : List Rc} {x : Rc} (h : isAt ds x = true) : placeN ds x < ds.length := by
  unfold isAt at h
  split at h
  · rename_i d hd
    exact (List.getElem?_eq_some_iff.1 hd).1
  · cases h
set_option maxRecDepth 100000 in
set_option maxHeartbeats 1000000 in
theorem delete_any (v : Value) (rs : List RV) (t : Int) (vk : Value) (k : List UInt8) (w : World) (hL : Ls w v rs) (hk : Has w vk k) (hn : rs.length ≤ 200000000) (hs : Srt (rs.map RV.d)) (hat : isAt (rs.map RV.d) ⟨t, k, []⟩ = true) : Calls Try.prog 17 #[v, .int .i64 t, vk] w fun e w' => ∃ v' rs', e = .returned (.tuple #[v', .int .i64 0]) ∧ Ls w' v' rs' ∧ rs'.map RV.d = delD (rs.map RV.d) ⟨t, k, []⟩ ∧ Below w.heap.size w w' := by
  have hLa := hL
  have hn2 := hn
  replace hn : rs.length ≤ 1000000000000 := by omega
  have hlt := isAt_lt hat
  obtain ⟨p, hp⟩ : ∃ p, placeN (rs.map RV.d) ⟨t, k, []⟩ = p := ⟨_, rfl⟩
  rw [hp, List.length_map] at hlt
  have pn : IntKind.i64.wrap ((p : Int) + 1) = ((p + 1 : Nat) : Int) := by rw [IntKind.wrap_i64]; omega
  have c1 := hL.cut 0 p (Nat.zero_le _) (by omega)
  have c2 := hL.cut (p + 1) rs.length (by omega) (Nat.le_refl _)
  rw [List.drop_zero, Nat.sub_zero] at c1
  rw [List.take_of_length_le (by simp)] at c2
  refine calls_of_args [v, .int .i64 t, vk] Try.func17 rfl 34 Try.ntmps17 (by show 3 ≤ 34; decide) ?_
  refine EW.seq ?_
  refine EW.region ?_
  first | refine WL.assign rfl rfl rfl ?_
  first | refine WL.assign rfl rfl rfl ?_
  refine WL.done ?_
  refine EW.on ?_
  refine EW.seq ?_
  refine EW.seq ?_
  refine EW.region ?_
  first | refine WL.move rfl rfl rfl ?_
  refine WL.call [v] enter22 rfl rfl rfl (fault_ok v rs _ hLa hs hn) ?_
  rintro _ w3 ⟨rfl, be3⟩
  refine ⟨_, rfl, ?_⟩
  first | refine WL.assign rfl rfl rfl ?_
  refine WL.done ?_
  refine EW.on ?_
  refine EW.seq ?_
  refine EW.region ?_
  first | refine WL.move rfl rfl rfl ?_
  first | refine WL.bin rfl rfl rfl rfl (int_ne_f rfl _ _ _) ?_ | refine WL.bin rfl rfl rfl rfl (int_ne_t ‹_› _ _ _) ?_ | refine WL.bin rfl rfl rfl rfl (int_ne_f ‹_› _ _ _) ?_ | refine WL.bin rfl rfl rfl rfl (int_ne_t (by decide) _ _ _) ?_ | refine WL.bin rfl rfl rfl rfl (int_ne_d _ _ _ _ _) ?_
  refine WL.done ?_
  refine EW.on ?_
  refine EW.cond_f rfl ?_
  refine EW.skip ?_
  refine EW.on ?_
  refine EW.seq ?_
  have hLb := hL.below be3
  have hkb := hk.below be3
  refine EW.region ?_
  first | refine WL.move rfl rfl rfl ?_
  first | refine WL.move rfl rfl rfl ?_
  first | refine WL.move rfl rfl rfl ?_
  refine WL.call [v, .int .i64 t, vk] enter38 rfl rfl rfl (place_any v rs t vk k _ hLb hkb hn hs) ?_
  rintro _ w4 ⟨rfl, be4⟩
  refine ⟨_, rfl, ?_⟩
  first | refine WL.move rfl rfl rfl ?_
  first | refine WL.extract rfl rfl rfl (ext_2 _ _ _).1 ?_
  first | refine WL.extract rfl rfl rfl (ext_2 _ _ _).2 ?_
  first | refine WL.assign rfl rfl rfl ?_
  first | refine WL.assign rfl rfl rfl ?_
  refine WL.done ?_
  rw [hp, hat]
  have e4 := be3.trans (be4.mono be3.size)
  refine EW.on ?_
  refine EW.seq ?_
  refine EW.seq ?_
  refine EW.region ?_
  first | refine WL.move rfl rfl rfl ?_
  first | refine WL.un rfl rfl rfl (not_t _ _) ?_
  refine WL.done ?_
  refine EW.on ?_
  refine EW.cond_f rfl ?_
  refine EW.skip ?_
  refine EW.on ?_
  refine EW.seq ?_
  refine EW.ordB [(0, 0, 0), (1, 0, 0), (2, 0, 0), (3, 0, 0), (4, 0, 0), (5, 0, 0), (6, 0, 0), (7, 1, 1), (8, 1, 0), (9, 0, 0), (10, 0, 0)] (by kernel_rfl) rfl (by kernel_rfl) ?_
  simp only [opsZ, List.getD_cons_zero, List.getD_cons_succ]
  first | refine ZE.move rfl rfl rfl rfl sz0 ?_
  first | refine ZE.move rfl rfl rfl rfl sz0 ?_
  refine ZE.sliceH rfl rfl rfl rfl rfl sz0 (fun W => hL.cutH p (by omega) W) ?_
  first | refine ZE.move rfl rfl rfl rfl sz0 ?_
  first | refine ZE.move rfl rfl rfl rfl sz0 ?_
  refine ZE.bin rfl rfl rfl rfl rfl sz0 (fun W => int_add pn W _ _) ?_
  refine ZE.sliceL rfl rfl rfl rfl rfl sz0 (fun W => hL.cutL (p + 1) (by omega) W) ?_
  refine ZE.bsl [(0, cut3 v 0 p), (1, cut3 v (p + 1) rs.length)] (fun u W => ∃ q, u = .slice (some ⟨q, 0, none⟩) 2 2 ∧ Pts W q [(cut3 v 0 p, rs.take p), (cut3 v (p + 1) rs.length, rs.drop (p + 1))] ∧ Below w4.heap.size w4 W) rfl rfl rfl (fun _ _ ⟨_, _, _, h⟩ => .inr h) (fun W hW => ⟨_, _, bsl83_2 _ _ c1.sl c2.sl W, W.heap.size, rfl, ?_, hW.trans ((below_new W _).mono hW.size)⟩) ?_
  · have hb := below_new W (.cells [cut3 v 0 p, cut3 v (p + 1) rs.length].toArray 23)
    have hb4 := hW.trans (hb.mono hW.size)
    refine ⟨Blk.new _ _ _, fun u hu => ?_, fun u hu r hr => ?_⟩
    · simp only [List.mem_cons, List.not_mem_nil, or_false] at hu
      rcases hu with rfl | rfl
      · exact (c1.below e4).below hb4
      · exact (c2.below e4).below hb4
    · simp only [List.mem_cons, List.not_mem_nil, or_false] at hu
      rcases hu with rfl | rfl
      · exact hs.sm (List.mem_of_mem_take hr)
      · exact hs.sm (List.mem_of_mem_drop hr)
  rintro _ ⟨_, q, rfl, _, _⟩
  refine ZE.callR [.slice (some ⟨q, 0, none⟩) 2 2] (fun u W => ∃ rs', Ls W u rs' ∧ rs'.map RV.d = delD (rs.map RV.d) ⟨t, k, []⟩ ∧ Below w.heap.size w W) enter39 rfl rfl rfl (fun _ _ _ => .inl rfl) (fun W hW => ?_) ?_
  · obtain ⟨q', hq', hP, hbe⟩ := hW
    cases hq'
    refine (copied_any q 2 _ W hP (by show 2 ≤ 1000; decide) (by simp [flatP]; omega)).mono fun e w' ⟨u, rs', h1, h2, h3, h4⟩ => ⟨u, h1, rs', h2, ?_, e4.trans ((hbe.trans (h4.mono hbe.size)).mono e4.size)⟩
    rw [h3, delD, hp]
    simp [flatP, List.map_take, List.map_drop]
  rintro vr _
  first | refine ZE.assign rfl rfl rfl rfl sz0 ?_
  first | refine ZE.assign rfl rfl rfl rfl sz0 ?_
  rintro w5 ⟨rs', g1, g2, g3⟩
  refine EW.on ?_
  refine EW.ret ?_
  exact EW.returns2 Try.results17 rfl rfl ⟨vr, rs', rfl, g1, g2, g3⟩
set_option maxRecDepth 100000 in
set_option maxHeartbeats 1000000 in
theorem delete_no (v : Value) (rs : List RV) (t : Int) (vk : Value) (k : List UInt8) (w : World) (hL : Ls w v rs) (hk : Has w vk k) (hn : rs.length ≤ 1000000000000) (hs : Srt (rs.map RV.d)) (hat : isAt (rs.map RV.d) ⟨t, k, []⟩ = false) : Calls Try.prog 17 #[v, .int .i64 t, vk] w fun e w' => e = .returned (.tuple #[.slice none 0 0, .int .i64 122]) ∧ Below w.heap.size w w' := by
  have hLa := hL
  refine calls_of_args [v, .int .i64 t, vk] Try.func17 rfl 34 Try.ntmps17 (by show 3 ≤ 34; decide) ?_
  refine EW.seq ?_
  refine EW.region ?_
  first | refine WL.assign rfl rfl rfl ?_
  first | refine WL.assign rfl rfl rfl ?_
  refine WL.done ?_
  refine EW.on ?_
  refine EW.seq ?_
  refine EW.seq ?_
  refine EW.region ?_
  first | refine WL.move rfl rfl rfl ?_
  refine WL.call [v] enter22 rfl rfl rfl (fault_ok v rs _ hLa hs hn) ?_
  rintro _ w3 ⟨rfl, be3⟩
  refine ⟨_, rfl, ?_⟩
  first | refine WL.assign rfl rfl rfl ?_
  refine WL.done ?_
  refine EW.on ?_
  refine EW.seq ?_
  refine EW.region ?_
  first | refine WL.move rfl rfl rfl ?_
  first | refine WL.bin rfl rfl rfl rfl (int_ne_f rfl _ _ _) ?_ | refine WL.bin rfl rfl rfl rfl (int_ne_t ‹_› _ _ _) ?_ | refine WL.bin rfl rfl rfl rfl (int_ne_f ‹_› _ _ _) ?_ | refine WL.bin rfl rfl rfl rfl (int_ne_t (by decide) _ _ _) ?_ | refine WL.bin rfl rfl rfl rfl (int_ne_d _ _ _ _ _) ?_
  refine WL.done ?_
  refine EW.on ?_
  refine EW.cond_f rfl ?_
  refine EW.skip ?_
  refine EW.on ?_
  refine EW.seq ?_
  have hLb := hL.below be3
  have hkb := hk.below be3
  refine EW.region ?_
  first | refine WL.move rfl rfl rfl ?_
  first | refine WL.move rfl rfl rfl ?_
  first | refine WL.move rfl rfl rfl ?_
  refine WL.call [v, .int .i64 t, vk] enter38 rfl rfl rfl (place_any v rs t vk k _ hLb hkb hn hs) ?_
  rintro _ w4 ⟨rfl, be4⟩
  refine ⟨_, rfl, ?_⟩
  first | refine WL.move rfl rfl rfl ?_
  first | refine WL.extract rfl rfl rfl (ext_2 _ _ _).1 ?_
  first | refine WL.extract rfl rfl rfl (ext_2 _ _ _).2 ?_
  first | refine WL.assign rfl rfl rfl ?_
  first | refine WL.assign rfl rfl rfl ?_
  refine WL.done ?_
  rw [hat]
  have e4 := be3.trans (be4.mono be3.size)
  refine EW.on ?_
  refine EW.seq ?_
  refine EW.seq ?_
  refine EW.region ?_
  first | refine WL.move rfl rfl rfl ?_
  first | refine WL.un rfl rfl rfl (not_t _ _) ?_
  refine WL.done ?_
  refine EW.on ?_
  refine EW.cond_t rfl ?_
  refine EW.seq ?_
  refine EW.region ?_
  first | refine WL.assign rfl rfl rfl ?_
  first | refine WL.assign rfl rfl rfl ?_
  refine WL.done ?_
  refine EW.on ?_
  refine EW.ret ?_
  refine pr_then ?_
  exact EW.returns2 Try.results17 rfl rfl ⟨rfl, e4⟩
theorem WL.sliceL {P : Program} {n : Nat} {ops : Array Oper} {Q : Exit → Act → World → Prop} {i : Nat} {ty : TypeId} {ps : String} {af : Array Edge} {gd : Option (Nat × Bool)} {r : List Oper} {e : List (Nat × Value)} {w : World} {t : TypeId} {x lo : Operand} {u ul v : Value} (hw : wantE ops e ⟨some i, .slice t x (some lo) none none, ty, ps, af, gd⟩ = some true) (hi : decide (i < n) = true) (hx : evE e x = some u) (hl : evE e lo = some ul) (hr : (Instr.sliceAt t u (some ul) none none).run P w = .ok v w) (k : WL P n ops Q r ((i, v) :: e) w) : WL P n ops Q (⟨some i, .slice t x (some lo) none none, ty, ps, af, gd⟩ :: r) e w :=
  WL.op i v hw rfl hi (fun a ha => by simp [execOp, ha.ev hx, ha.ev hl, hr, Result.andThen]) k
set_option maxRecDepth 100000 in
set_option maxHeartbeats 1000000 in
theorem put_any (v : Value) (rs : List RV) (x : RV) (w : World) (hL : Ls w v rs) (okx : x.ok w) (hxd : okD x.d) (hn : rs.length ≤ 100000000) (hs : Srt (rs.map RV.d)) : Calls Try.prog 15 #[v, x.val] w fun e w' => ∃ v' rs', e = .returned (.tuple #[v', .int .i64 0]) ∧ Ls w' v' rs' ∧ rs'.map RV.d = insD (rs.map RV.d) x.d ∧ Below w.heap.size w w' := by
  have hn2 := hn
  replace hn : rs.length ≤ 1000000000000 := by omega
  obtain ⟨w1, q1, r1, b1, e1, hq1⟩ := box32 x w
  have hxk : x.k.length ≤ 64 := hxd.2.2.2.1
  have hxv : x.v.length ≤ 900 := hxd.2.2.2.2
  obtain ⟨p, hp⟩ : ∃ p, placeN (rs.map RV.d) ⟨x.t, x.k, []⟩ = p := ⟨_, rfl⟩
  obtain ⟨b, hat⟩ : ∃ b, isAt (rs.map RV.d) ⟨x.t, x.k, []⟩ = b := ⟨_, rfl⟩
  have hpl := place_le (rs.map RV.d) ⟨x.t, x.k, []⟩
  rw [hp, List.length_map] at hpl
  have c1 := hL.cut 0 p (Nat.zero_le _) (by omega)
  have c3 := hL.cut p rs.length (by omega) (Nat.le_refl _)
  rw [List.drop_zero, Nat.sub_zero] at c1
  rw [List.take_of_length_le (by simp)] at c3
  obtain ⟨s, hsb⟩ : ∃ s, (if b then 1 else 0) = s := ⟨_, rfl⟩
  cases b
  · have hs0 : s = 0 := hsb.symm
    have c2 : Ls w (cut3 v p rs.length) (rs.drop (p + s)) := by rw [hs0, Nat.add_zero]; exact c3
    obtain ⟨tv, htv⟩ : ∃ tv, cut3 v p rs.length = tv := ⟨_, rfl⟩
    rw [htv] at c2
    refine calls_of_args [v, x.val] Try.func15 rfl 44 Try.ntmps15 (by show 2 ≤ 44; decide) ?_
    refine EW.seq ?_
    refine EW.region ?_
    refine WL.box rfl rfl rfl r1 ?_
    first | refine WL.assign rfl rfl rfl ?_
    first | refine WL.assign rfl rfl rfl ?_
    refine WL.done ?_
    refine EW.on ?_
    refine EW.seq ?_
    refine EW.seq ?_
    refine EW.region ?_
    refine WL.load rfl rfl rfl (ld32 b1) ?_
    refine WL.call [x.val] enter37 rfl rfl rfl (check_any x _ (okx.below e1)) ?_
    rintro _ w2 ⟨rfl, be2⟩
    rw [errR_ok hxd]
    refine ⟨_, rfl, ?_⟩
    first | refine WL.assign rfl rfl rfl ?_
    refine WL.done ?_
    refine EW.on ?_
    refine EW.seq ?_
    refine EW.region ?_
    first | refine WL.move rfl rfl rfl ?_
    first | refine WL.bin rfl rfl rfl rfl (int_ne_f rfl _ _ _) ?_ | refine WL.bin rfl rfl rfl rfl (int_ne_t ‹_› _ _ _) ?_ | refine WL.bin rfl rfl rfl rfl (int_ne_f ‹_› _ _ _) ?_ | refine WL.bin rfl rfl rfl rfl (int_ne_t (by decide) _ _ _) ?_ | refine WL.bin rfl rfl rfl rfl (int_ne_d _ _ _ _ _) ?_
    refine WL.done ?_
    refine EW.on ?_
    refine EW.cond_f rfl ?_
    refine EW.skip ?_
    refine EW.on ?_
    refine EW.seq ?_
    refine EW.seq ?_
    have hLa := (hL.below e1).below be2
    refine EW.region ?_
    first | refine WL.move rfl rfl rfl ?_
    refine WL.call [v] enter22 rfl rfl rfl (fault_ok v rs _ hLa hs hn) ?_
    rintro _ w3 ⟨rfl, be3⟩
    refine ⟨_, rfl, ?_⟩
    first | refine WL.assign rfl rfl rfl ?_
    refine WL.done ?_
    refine EW.on ?_
    refine EW.seq ?_
    refine EW.region ?_
    first | refine WL.move rfl rfl rfl ?_
    first | refine WL.bin rfl rfl rfl rfl (int_ne_f rfl _ _ _) ?_ | refine WL.bin rfl rfl rfl rfl (int_ne_t ‹_› _ _ _) ?_ | refine WL.bin rfl rfl rfl rfl (int_ne_f ‹_› _ _ _) ?_ | refine WL.bin rfl rfl rfl rfl (int_ne_t (by decide) _ _ _) ?_ | refine WL.bin rfl rfl rfl rfl (int_ne_d _ _ _ _ _) ?_
    refine WL.done ?_
    refine EW.on ?_
    refine EW.cond_f rfl ?_
    refine EW.skip ?_
    refine EW.on ?_
    refine EW.seq ?_
    have e2 := e1.trans (be2.mono e1.size)
    have e3 := e2.trans (be3.mono e2.size)
    have hLb := hL.below e3
    have hkb := okx.hk.below e3
    refine EW.region ?_
    first | refine WL.move rfl rfl rfl ?_
    refine WL.field rfl rfl rfl (rfld0 _ _) ?_
    refine WL.load rfl rfl rfl (ldI ((b1.on be2).on be3) rfl) ?_
    refine WL.field rfl rfl rfl (rfld1 _ _) ?_
    refine WL.load rfl rfl rfl (ldS ((b1.on be2).on be3) rfl) ?_
    refine WL.call [v, .int .i64 x.t, x.vk] enter38 rfl rfl rfl (place_any v rs x.t x.vk x.k _ hLb hkb hn hs) ?_
    rintro _ w4 ⟨rfl, be4⟩
    refine ⟨_, rfl, ?_⟩
    first | refine WL.move rfl rfl rfl ?_
    first | refine WL.extract rfl rfl rfl (ext_2 _ _ _).1 ?_
    first | refine WL.extract rfl rfl rfl (ext_2 _ _ _).2 ?_
    first | refine WL.assign rfl rfl rfl ?_
    first | refine WL.assign rfl rfl rfl ?_
    refine WL.done ?_
    rw [hp, hat]
    have e4 := e3.trans (be4.mono e3.size)
    refine EW.on ?_
    refine EW.seq ?_
    refine EW.region ?_
    first | refine WL.move rfl rfl rfl ?_
    first | refine WL.move rfl rfl rfl ?_
    first | refine WL.sliceL rfl rfl rfl rfl (hL.cutL p (by omega) _) ?_ | refine WL.sliceL rfl rfl rfl rfl (c3.cutL 1 (by simp; omega) _) ?_
    first | refine WL.assign rfl rfl rfl ?_
    refine WL.done ?_
    rw [htv]
    refine EW.on ?_
    refine EW.seq ?_
    refine EW.seq ?_
    refine EW.region ?_
    first | refine WL.move rfl rfl rfl ?_
    refine WL.done ?_
    refine EW.on ?_
    refine EW.cond_f rfl ?_
    refine EW.skip ?_
    refine EW.on ?_
    refine EW.seq ?_
    have bq := ((b1.on be2).on be3).on be4
    refine EW.ordB [(0, 0, 0), (1, 0, 0), (2, 0, 0), (3, 0, 1), (5, 0, 0), (4, 1, 1), (6, 1, 1), (7, 1, 0), (8, 0, 0), (9, 0, 0)] (by kernel_rfl) rfl (by kernel_rfl) ?_
    simp only [opsZ, List.getD_cons_zero, List.getD_cons_succ]
    first | refine ZE.move rfl rfl rfl rfl sz0 ?_
    first | refine ZE.move rfl rfl rfl rfl sz0 ?_
    refine ZE.sliceH rfl rfl rfl rfl rfl sz0 (fun W => hL.cutH p (by omega) W) ?_
    refine ZE.load rfl rfl rfl rfl sz1 (fun W hW => ld32 (bq.on (sb_of hW))) ?_
    first | refine ZE.move rfl rfl rfl rfl sz0 ?_
    refine ZE.bsl [(0, x.val)] (fun u W => ∃ q, u = .slice (some ⟨q, 0, none⟩) 1 1 ∧ Blk W q x.cs 32 ∧ Below w4.heap.size w4 W) rfl rfl rfl (fun _ _ ⟨_, _, _, h⟩ => .inr h) (fun W hW => ⟨_, _, bsl23 x W, W.heap.size, rfl, Blk.new _ _ _, hW.trans ((below_new W _).mono hW.size)⟩) ?_
    rintro _ ⟨_, q, rfl, _, _⟩
    refine ZE.bsl [(0, cut3 v 0 p), (1, .slice (some ⟨q, 0, none⟩) 1 1), (2, tv)] (fun u W => ∃ q', u = .slice (some ⟨q', 0, none⟩) 3 3 ∧ Pts W q' [(cut3 v 0 p, rs.take p), (.slice (some ⟨q, 0, none⟩) 1 1, [x]), (tv, rs.drop (p + s))] ∧ Below w4.heap.size w4 W) rfl rfl rfl (fun _ _ ⟨_, _, _, h⟩ => .inr h) (fun W hW => ?_) ?_
    · obtain ⟨q1', hq', hbx, hW⟩ := hW
      cases hq'
      refine ⟨_, _, bsl83_3 _ _ _ c1.sl ⟨_, _, _, rfl⟩ c2.sl W, W.heap.size, rfl, ?_, hW.trans ((below_new W _).mono hW.size)⟩
      have hb := below_new W (.cells [cut3 v 0 p, .slice (some ⟨q, 0, none⟩) 1 1, tv].toArray 23)
      have hb4 := hW.trans (hb.mono hW.size)
      refine ⟨Blk.new _ _ _, fun u hu => ?_, fun u hu r hr => ?_⟩
      · simp only [List.mem_cons, List.not_mem_nil, or_false] at hu
        rcases hu with rfl | rfl | rfl
        · exact (c1.below e4).below hb4
        · exact (Ls.single hbx ((okx.below e4).below hW)).below hb
        · exact (c2.below e4).below hb4
      · simp only [List.mem_cons, List.not_mem_nil, or_false] at hu
        rcases hu with rfl | rfl | rfl
        · exact hs.sm (List.mem_of_mem_take hr)
        · rw [List.mem_singleton.1 hr]; exact ⟨by omega, by omega⟩
        · exact hs.sm (List.mem_of_mem_drop hr)
    rintro _ ⟨_, q', rfl, _, _⟩
    refine ZE.callR [.slice (some ⟨q', 0, none⟩) 3 3] (fun u W => ∃ rs', Ls W u rs' ∧ rs'.map RV.d = insD (rs.map RV.d) x.d ∧ Below w.heap.size w W) enter39 rfl rfl rfl (fun _ _ _ => .inl rfl) (fun W hW => ?_) ?_
    · obtain ⟨q2', hq', hP, hbe⟩ := hW
      cases hq'
      refine (copied_any q' 3 _ W hP (by show 3 ≤ 1000; decide) (by simp [flatP]; omega)).mono fun e w' ⟨u, rs', h1, h2, h3, h4⟩ => ⟨u, h1, rs', h2, ?_, e4.trans ((hbe.trans (h4.mono hbe.size)).mono e4.size)⟩
      rw [h3, insD, show placeN (rs.map RV.d) x.d = p from hp, show isAt (rs.map RV.d) x.d = _ from hat, hsb]
      simp [flatP, List.map_take, List.map_drop]
    rintro vr _
    first | refine ZE.assign rfl rfl rfl rfl sz0 ?_
    first | refine ZE.assign rfl rfl rfl rfl sz0 ?_
    rintro w5 ⟨rs', g1, g2, g3⟩
    refine EW.on ?_
    refine EW.ret ?_
    exact EW.returns2 Try.results15 rfl rfl ⟨vr, rs', rfl, g1, g2, g3⟩
  · have hs1 : s = 1 := hsb.symm
    have hlt := isAt_lt hat
    rw [hp, List.length_map] at hlt
    have c2 := c3.cut 1 (rs.drop p).length (by simp; omega) (Nat.le_refl _)
    obtain ⟨cv, hcv⟩ : ∃ cv, cut3 (cut3 v p rs.length) 1 (rs.drop p).length = cv := ⟨_, rfl⟩
    rw [hcv] at c2
    rw [List.take_of_length_le (by simp; omega), List.drop_drop, ← hs1] at c2
    obtain ⟨tv, htv⟩ : ∃ tv, cv = tv := ⟨_, rfl⟩
    rw [htv] at c2 hcv
    refine calls_of_args [v, x.val] Try.func15 rfl 44 Try.ntmps15 (by show 2 ≤ 44; decide) ?_
    refine EW.seq ?_
    refine EW.region ?_
    refine WL.box rfl rfl rfl r1 ?_
    first | refine WL.assign rfl rfl rfl ?_
    first | refine WL.assign rfl rfl rfl ?_
    refine WL.done ?_
    refine EW.on ?_
    refine EW.seq ?_
    refine EW.seq ?_
    refine EW.region ?_
    refine WL.load rfl rfl rfl (ld32 b1) ?_
    refine WL.call [x.val] enter37 rfl rfl rfl (check_any x _ (okx.below e1)) ?_
    rintro _ w2 ⟨rfl, be2⟩
    rw [errR_ok hxd]
    refine ⟨_, rfl, ?_⟩
    first | refine WL.assign rfl rfl rfl ?_
    refine WL.done ?_
    refine EW.on ?_
    refine EW.seq ?_
    refine EW.region ?_
    first | refine WL.move rfl rfl rfl ?_
    first | refine WL.bin rfl rfl rfl rfl (int_ne_f rfl _ _ _) ?_ | refine WL.bin rfl rfl rfl rfl (int_ne_t ‹_› _ _ _) ?_ | refine WL.bin rfl rfl rfl rfl (int_ne_f ‹_› _ _ _) ?_ | refine WL.bin rfl rfl rfl rfl (int_ne_t (by decide) _ _ _) ?_ | refine WL.bin rfl rfl rfl rfl (int_ne_d _ _ _ _ _) ?_
    refine WL.done ?_
    refine EW.on ?_
    refine EW.cond_f rfl ?_
    refine EW.skip ?_
    refine EW.on ?_
    refine EW.seq ?_
    refine EW.seq ?_
    have hLa := (hL.below e1).below be2
    refine EW.region ?_
    first | refine WL.move rfl rfl rfl ?_
    refine WL.call [v] enter22 rfl rfl rfl (fault_ok v rs _ hLa hs hn) ?_
    rintro _ w3 ⟨rfl, be3⟩
    refine ⟨_, rfl, ?_⟩
    first | refine WL.assign rfl rfl rfl ?_
    refine WL.done ?_
    refine EW.on ?_
    refine EW.seq ?_
    refine EW.region ?_
    first | refine WL.move rfl rfl rfl ?_
    first | refine WL.bin rfl rfl rfl rfl (int_ne_f rfl _ _ _) ?_ | refine WL.bin rfl rfl rfl rfl (int_ne_t ‹_› _ _ _) ?_ | refine WL.bin rfl rfl rfl rfl (int_ne_f ‹_› _ _ _) ?_ | refine WL.bin rfl rfl rfl rfl (int_ne_t (by decide) _ _ _) ?_ | refine WL.bin rfl rfl rfl rfl (int_ne_d _ _ _ _ _) ?_
    refine WL.done ?_
    refine EW.on ?_
    refine EW.cond_f rfl ?_
    refine EW.skip ?_
    refine EW.on ?_
    refine EW.seq ?_
    have e2 := e1.trans (be2.mono e1.size)
    have e3 := e2.trans (be3.mono e2.size)
    have hLb := hL.below e3
    have hkb := okx.hk.below e3
    refine EW.region ?_
    first | refine WL.move rfl rfl rfl ?_
    refine WL.field rfl rfl rfl (rfld0 _ _) ?_
    refine WL.load rfl rfl rfl (ldI ((b1.on be2).on be3) rfl) ?_
    refine WL.field rfl rfl rfl (rfld1 _ _) ?_
    refine WL.load rfl rfl rfl (ldS ((b1.on be2).on be3) rfl) ?_
    refine WL.call [v, .int .i64 x.t, x.vk] enter38 rfl rfl rfl (place_any v rs x.t x.vk x.k _ hLb hkb hn hs) ?_
    rintro _ w4 ⟨rfl, be4⟩
    refine ⟨_, rfl, ?_⟩
    first | refine WL.move rfl rfl rfl ?_
    first | refine WL.extract rfl rfl rfl (ext_2 _ _ _).1 ?_
    first | refine WL.extract rfl rfl rfl (ext_2 _ _ _).2 ?_
    first | refine WL.assign rfl rfl rfl ?_
    first | refine WL.assign rfl rfl rfl ?_
    refine WL.done ?_
    rw [hp, hat]
    have e4 := e3.trans (be4.mono e3.size)
    refine EW.on ?_
    refine EW.seq ?_
    refine EW.region ?_
    first | refine WL.move rfl rfl rfl ?_
    first | refine WL.move rfl rfl rfl ?_
    first | refine WL.sliceL rfl rfl rfl rfl (hL.cutL p (by omega) _) ?_ | refine WL.sliceL rfl rfl rfl rfl (c3.cutL 1 (by simp; omega) _) ?_
    first | refine WL.assign rfl rfl rfl ?_
    refine WL.done ?_
    refine EW.on ?_
    refine EW.seq ?_
    refine EW.seq ?_
    refine EW.region ?_
    first | refine WL.move rfl rfl rfl ?_
    refine WL.done ?_
    refine EW.on ?_
    refine EW.cond_t rfl ?_
    refine EW.region ?_
    first | refine WL.move rfl rfl rfl ?_
    first | refine WL.sliceL rfl rfl rfl rfl (hL.cutL p (by omega) _) ?_ | refine WL.sliceL rfl rfl rfl rfl (c3.cutL 1 (by simp; omega) _) ?_
    first | refine WL.assign rfl rfl rfl ?_
    refine WL.done ?_
    rw [hcv]
    refine EW.on ?_
    refine EW.seq ?_
    have bq := ((b1.on be2).on be3).on be4
    refine EW.ordB [(0, 0, 0), (1, 0, 0), (2, 0, 0), (3, 0, 1), (5, 0, 0), (4, 1, 1), (6, 1, 1), (7, 1, 0), (8, 0, 0), (9, 0, 0)] (by kernel_rfl) rfl (by kernel_rfl) ?_
    simp only [opsZ, List.getD_cons_zero, List.getD_cons_succ]
    first | refine ZE.move rfl rfl rfl rfl sz0 ?_
    first | refine ZE.move rfl rfl rfl rfl sz0 ?_
    refine ZE.sliceH rfl rfl rfl rfl rfl sz0 (fun W => hL.cutH p (by omega) W) ?_
    refine ZE.load rfl rfl rfl rfl sz1 (fun W hW => ld32 (bq.on (sb_of hW))) ?_
    first | refine ZE.move rfl rfl rfl rfl sz0 ?_
    refine ZE.bsl [(0, x.val)] (fun u W => ∃ q, u = .slice (some ⟨q, 0, none⟩) 1 1 ∧ Blk W q x.cs 32 ∧ Below w4.heap.size w4 W) rfl rfl rfl (fun _ _ ⟨_, _, _, h⟩ => .inr h) (fun W hW => ⟨_, _, bsl23 x W, W.heap.size, rfl, Blk.new _ _ _, hW.trans ((below_new W _).mono hW.size)⟩) ?_
    rintro _ ⟨_, q, rfl, _, _⟩
    refine ZE.bsl [(0, cut3 v 0 p), (1, .slice (some ⟨q, 0, none⟩) 1 1), (2, tv)] (fun u W => ∃ q', u = .slice (some ⟨q', 0, none⟩) 3 3 ∧ Pts W q' [(cut3 v 0 p, rs.take p), (.slice (some ⟨q, 0, none⟩) 1 1, [x]), (tv, rs.drop (p + s))] ∧ Below w4.heap.size w4 W) rfl rfl rfl (fun _ _ ⟨_, _, _, h⟩ => .inr h) (fun W hW => ?_) ?_
    · obtain ⟨q1', hq', hbx, hW⟩ := hW
      cases hq'
      refine ⟨_, _, bsl83_3 _ _ _ c1.sl ⟨_, _, _, rfl⟩ c2.sl W, W.heap.size, rfl, ?_, hW.trans ((below_new W _).mono hW.size)⟩
      have hb := below_new W (.cells [cut3 v 0 p, .slice (some ⟨q, 0, none⟩) 1 1, tv].toArray 23)
      have hb4 := hW.trans (hb.mono hW.size)
      refine ⟨Blk.new _ _ _, fun u hu => ?_, fun u hu r hr => ?_⟩
      · simp only [List.mem_cons, List.not_mem_nil, or_false] at hu
        rcases hu with rfl | rfl | rfl
        · exact (c1.below e4).below hb4
        · exact (Ls.single hbx ((okx.below e4).below hW)).below hb
        · exact (c2.below e4).below hb4
      · simp only [List.mem_cons, List.not_mem_nil, or_false] at hu
        rcases hu with rfl | rfl | rfl
        · exact hs.sm (List.mem_of_mem_take hr)
        · rw [List.mem_singleton.1 hr]; exact ⟨by omega, by omega⟩
        · exact hs.sm (List.mem_of_mem_drop hr)
    rintro _ ⟨_, q', rfl, _, _⟩
    refine ZE.callR [.slice (some ⟨q', 0, none⟩) 3 3] (fun u W => ∃ rs', Ls W u rs' ∧ rs'.map RV.d = insD (rs.map RV.d) x.d ∧ Below w.heap.size w W) enter39 rfl rfl rfl (fun _ _ _ => .inl rfl) (fun W hW => ?_) ?_
    · obtain ⟨q2', hq', hP, hbe⟩ := hW
      cases hq'
      refine (copied_any q' 3 _ W hP (by show 3 ≤ 1000; decide) (by simp [flatP]; omega)).mono fun e w' ⟨u, rs', h1, h2, h3, h4⟩ => ⟨u, h1, rs', h2, ?_, e4.trans ((hbe.trans (h4.mono hbe.size)).mono e4.size)⟩
      rw [h3, insD, show placeN (rs.map RV.d) x.d = p from hp, show isAt (rs.map RV.d) x.d = _ from hat, hsb]
      simp [flatP, List.map_take, List.map_drop]
    rintro vr _
    first | refine ZE.assign rfl rfl rfl rfl sz0 ?_
    first | refine ZE.assign rfl rfl rfl rfl sz0 ?_
    rintro w5 ⟨rs', g1, g2, g3⟩
    refine EW.on ?_
    refine EW.ret ?_
    exact EW.returns2 Try.results15 rfl rfl ⟨vr, rs', rfl, g1, g2, g3⟩
end Go.Proofs.Yteghbkeaojbdgaa
