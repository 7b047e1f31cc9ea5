import Derived.Test.YtobfebpinkikdaaHw
set_option linter.unusedVariables false
set_option linter.unusedSimpArgs false
namespace Go.Proofs.Ytobfebpinkikdaa
open Go.RowKit

theorem RtP.fx {w w' : World} {p : Pk} {k : Nat} {body : List UInt8} (h : RtP w p k body) {g : Nat} (hf : Fx (fun k => k = g) w w') (ho : Off p.bv body g) : RtP w' p k body := ⟨h.hk, h.k12, h.ok, h.fl, h.hs.fxo hf (fun k hk => by have e : k = g := hk; rw [e]; exact ho)⟩
theorem ldOfB {w : World} {q : Nat} {o : Of} {t : TypeId} {u : UInt8} {r : List UInt8} (hb : Blk w q o.cs t) (hu : o.id = u :: r) : (Instr.loadAt 5 (.pointer (some ⟨q, 0, none⟩))).run Try.prog w = .ok (byt u) w := ldByte (a := []) (b := r.map byt ++ ([u32v o.pre] ++ o.key.map byt)) hb (by simp [Of.cs, hu]) rfl
theorem ldOfB2 {w : World} {q : Nat} {o : Of} {t : TypeId} {u : UInt8} {r : List UInt8} (hb : Blk w q o.cs t) (hi : o.id.length = 32) (hu : o.key = u :: r) : (Instr.loadAt 5 (.pointer (some ⟨q, 33, none⟩))).run Try.prog w = .ok (byt u) w := ldByte (a := o.id.map byt ++ [u32v o.pre]) (b := r.map byt) hb (by simp [Of.cs, hu]) (by simp [hi])
theorem stOfB {w : World} {q : Nat} {o : Of} {t : TypeId} {u : UInt8} {r : List UInt8} (hb : Blk w q o.cs t) (hu : o.id = u :: r) (x : UInt8) : ∃ w', (Instr.storeAt 5 (.pointer (some ⟨q, 0, none⟩)) (byt x)).run Try.prog w = .ok () w' ∧ Blk w' q (Of.cs ⟨x :: r, o.pre, o.key⟩) t ∧ Fx (fun k => k = q) w w' := by
  obtain ⟨w', h1, h2, h3⟩ := stByte (x := byt u) (o := 0) (a := []) (b := r.map byt ++ ([u32v o.pre] ++ o.key.map byt)) hb (by simp [Of.cs, hu]) rfl x
  exact ⟨w', h1, by simpa [Of.cs] using h2, h3⟩
theorem stOfB2 {w : World} {q : Nat} {o : Of} {t : TypeId} {u : UInt8} {r : List UInt8} (hb : Blk w q o.cs t) (hi : o.id.length = 32) (hu : o.key = u :: r) (x : UInt8) : ∃ w', (Instr.storeAt 5 (.pointer (some ⟨q, 33, none⟩)) (byt x)).run Try.prog w = .ok () w' ∧ Blk w' q (Of.cs ⟨o.id, o.pre, x :: r⟩) t ∧ Fx (fun k => k = q) w w' := by
  obtain ⟨w', h1, h2, h3⟩ := stByte (x := byt u) (o := 33) (a := o.id.map byt ++ [u32v o.pre]) (b := r.map byt) hb (by simp [Of.cs, hu]) (by simp [hi]) x
  exact ⟨w', h1, by simpa [Of.cs] using h2, h3⟩
/-- A new variable that a packet is stored into. -/
theorem new33 (w : World) (p : Pk) (kp : p.ok) (hv : ∃ ao n c, p.bv = .slice ao n c) : ∃ w1 w2 q, (Instr.alloc 33 true (.tuple #[])).run Try.prog w = .ok (.pointer (some ⟨q, 0, none⟩)) w1 ∧ (Instr.storeAt 33 (.pointer (some ⟨q, 0, none⟩)) p.v).run Try.prog w1 = .ok () w2 ∧ Blk w2 q p.cs 33 ∧ Below w.heap.size w w2 ∧ w.heap.size ≤ q := by
  obtain ⟨w1, q, r1, b1, e1, hq⟩ := new_any (t := 33) (cs := Pk.z.cs) zv33 w
  obtain ⟨w2, r2, b2, f2⟩ := stPk b1 Pk.z_ok p kp hv
  exact ⟨w1, w2, q, r1, r2, b2, e1.trans (f2.low (by omega) e1.size), by omega⟩
theorem new42 (w : World) (p : Of) (kp : p.ok) : ∃ w1 w2 q, (Instr.alloc 42 true (.tuple #[])).run Try.prog w = .ok (.pointer (some ⟨q, 0, none⟩)) w1 ∧ (Instr.storeAt 42 (.pointer (some ⟨q, 0, none⟩)) p.v).run Try.prog w1 = .ok () w2 ∧ Blk w2 q p.cs 42 ∧ Below w.heap.size w w2 ∧ w.heap.size ≤ q := by
  obtain ⟨w1, q, r1, b1, e1, hq⟩ := new_any (t := 42) (cs := Of.z.cs) zv42 w
  obtain ⟨w2, r2, b2, f2⟩ := stOf b1 Of.z_ok p kp
  exact ⟨w1, w2, q, r1, r2, b2, e1.trans (f2.low (by omega) e1.size), by omega⟩
theorem ofV_ok (c : List UInt8) : (ofV c).ok := by
  unfold ofV
  split
  · rename_i h
    exact (off_back h).2.1
  · exact Of.z_ok
theorem Ob.len {w : World} {b : Nat} {v : Value} {bs : List UInt8} (h : Ob w b v bs) (W : World) (ty : TypeId) : (Builtin.len_ #[31] ty #[v]).run Try.prog W = .ok (.int .i64 bs.length) W := h.has.len W ty
set_option maxRecDepth 100000 in
set_option maxHeartbeats 16000000 in
theorem back_any (p : Pk) (kp : p.ok) (o : Of) (ko : o.ok) (body : List UInt8) (w : World) (hy : Has w p.bv body) (hmax : body.length ≤ 140737488355328) : Calls Try.prog 6 #[p.v, o.v] w fun e w' => e = .returned (.bool true) ∧ Below w.heap.size w w' := by
  obtain ⟨w1, qp, r1, bp1, e1, hqp⟩ := box_any 33 p.cs w
  obtain ⟨w2, qo, r2, bo2, e2, hqo⟩ := box_any 42 o.cs w1
  have l1 := e1.size
  have l2 := e2.size
  have hqpl := bp1.lt
  have hqol := bo2.lt
  have bp2 := bp1.on e2
  have sb2 := e1.trans (e2.mono l1)
  have hy2 := hy.below sb2
  obtain ⟨u, r, hid⟩ := id_first ko.i
  have hil : r.length = 31 := by have := ko.i; rw [hid] at this; simpa using this
  obtain ⟨u', r', hke⟩ := id_first ko.k
  have hkl : r'.length = 31 := by have := ko.k; rw [hke] at this; simpa using this
  obtain ⟨o1, ho1⟩ : ∃ o1 : Of, o1 = ⟨(u ||| 1) :: r, o.pre ||| 1, (u' ||| 1) :: r'⟩ := ⟨_, rfl⟩
  have ko1 : o1.ok := by rw [ho1]; exact ⟨by simp [hil], or1_lt ko.p, by simp [hkl]⟩
  have hro : rightO o1 := by rw [ho1]; exact ⟨or8_ne u r, or8_ne u' r', or1_ne _⟩
  refine calls_of_args [p.v, o.v] Try.func6 rfl 135 Try.ntmps6 (by show 2 ≤ 135; decide) ?_
  refine EW.seq ?_
  refine EW.region ?_
  refine WL.box rfl rfl rfl r1 ?_
  refine WL.box rfl rfl rfl r2 ?_
  first | refine WL.assign rfl rfl rfl ?_
  refine WL.done ?_
  refine EW.on ?_
  refine EW.seq ?_
  refine EW.region ?_
  refine WL.load rfl rfl rfl (ldPk bp2 kp) ?_
  refine WL.call [p.v] enter8 rfl rfl rfl (right_any' p kp body w2 hy2 hmax) ?_
  rintro _ w3 ⟨p1, k, body1, rfl, rt3, off3, be3⟩
  have bp3 := bp2.on be3
  have bo3 := bo2.on be3
  have sb3 := sb2.trans (be3.mono sb2.size)
  have l3 := be3.size
  have hop := off3 qp (hy.offB' (by omega)) (by omega)
  have hoo := off3 qo (hy.offB' (by omega)) (by omega)
  have kp1 := rt3.ok
  refine ⟨_, rfl, ?_⟩
  obtain ⟨w4, s4, bp4, f4⟩ := stPk bp3 kp p1 kp1 rt3.hs.sl
  refine WL.store rfl rfl rfl s4 ?_
  have sb4 := sb3.trans (f4.low (by omega) sb3.size)
  have bo4 := bo3.fx f4 (fun e => by omega)
  have rt4 := rt3.fx f4 hop
  refine WL.done ?_
  refine EW.on ?_
  refine EW.seq ?_
  refine EW.region ?_
  refine WL.field rfl rfl rfl (f42_0 qo 0 _) ?_
  refine WL.index rfl rfl rfl rfl (idxK qo _ 0 (by decide) _) ?_
  refine WL.load rfl rfl rfl (ldOfB bo4 hid) ?_
  refine WL.bin rfl rfl rfl rfl (or8_1 _ _ _ _) ?_
  refine WL.field rfl rfl rfl (f42_0 qo 0 _) ?_
  refine WL.index rfl rfl rfl rfl (idxK qo _ 0 (by decide) _) ?_
  obtain ⟨w5, s5, bo5, f5⟩ := stOfB bo4 hid (u ||| 1)
  refine WL.store rfl rfl rfl s5 ?_
  have sb5 := sb4.trans (f5.low (by omega) sb4.size)
  have bp5 := bp4.fx f5 (fun e => by omega)
  have rt5 := rt4.fx f5 hoo
  refine WL.done ?_
  refine EW.on ?_
  refine EW.seq ?_
  refine EW.region ?_
  refine WL.field rfl rfl rfl (f42_2 qo 0 _) ?_
  refine WL.index rfl rfl rfl rfl (idxK qo _ 0 (by decide) _) ?_
  refine WL.load rfl rfl rfl (ldOfB2 bo5 (by simp [hil]) hke) ?_
  refine WL.bin rfl rfl rfl rfl (or8_1 _ _ _ _) ?_
  refine WL.field rfl rfl rfl (f42_2 qo 0 _) ?_
  refine WL.index rfl rfl rfl rfl (idxK qo _ 0 (by decide) _) ?_
  obtain ⟨w6, s6, bo6, f6⟩ := stOfB2 bo5 (by simp [hil]) hke (u' ||| 1)
  refine WL.store rfl rfl rfl s6 ?_
  have sb6 := sb5.trans (f6.low (by omega) sb5.size)
  have bp6 := bp5.fx f6 (fun e => by omega)
  have rt6 := rt5.fx f6 hoo
  refine WL.done ?_
  refine EW.on ?_
  refine EW.seq ?_
  refine EW.region ?_
  refine WL.field rfl rfl rfl (f42_1 qo 0 _) ?_
  refine WL.load rfl rfl rfl (ldOfP bo6 ⟨by simp [hil], ko.p, by simp [hkl]⟩) ?_
  refine WL.bin rfl rfl rfl rfl (orU_1 ko.p _ _ _) ?_
  refine WL.field rfl rfl rfl (f42_1 qo 0 _) ?_
  obtain ⟨w7, s7, bo7, f7⟩ := stOfP bo6 ⟨by simp [hil], ko.p, by simp [hkl]⟩ (o.pre ||| 1)
  refine WL.store rfl rfl rfl s7 ?_
  have sb7 := sb6.trans (f7.low (by omega) sb6.size)
  have bp7 := bp6.fx f7 (fun e => by omega)
  have rt7 := rt6.fx f7 hoo
  rw [show (⟨(u ||| 1) :: r, o.pre ||| 1, (u' ||| 1) :: r'⟩ : Of) = o1 from ho1.symm] at bo7
  have fl1 := rt7.fl
  refine WL.done ?_
  refine EW.on ?_
  refine EW.seq ?_
  have hk := rt7.k12
  rcases rt7.k12 with rfl | rfl
  · have hlen : (packB 1 p1.hl p1.hd body1).length = 132 + body1.length := packB_len hk kp1.l kp1.d body1
    obtain ⟨_, hsu, hb1, hb2⟩ := flt_ok fl1
    have hun := pack_un hk kp1.l kp1.d body1 fl1
    have hpk := pack_pk hk kp1.l kp1.d body1 fl1
    have hbo := pack_bo hk kp1.l kp1.d body1
    have hcA : ∀ {W : World} {v : Value}, Has W v (packB 1 p1.hl p1.hd body1) → Has W (cutV v 70 (70 + 60)) (encH p1.hd) := fun h => by
      have h1 := h.cut 70 (70 + 60) (by decide) (by rw [hlen]; omega)
      have e : ((packB 1 p1.hl p1.hd body1).drop 70).take (70 + 60 - 70) = encH p1.hd := cutB_mid (a := [1, 1] ++ encL p1.hl) (b := lenB body1.length ++ body1) (by simp [packB]) (by simp [encL_len kp1.l]) (encH_len kp1.d)
      rw [e] at h1
      exact h1
    have hcB : ∀ {W : World} {v : Value}, Has W v (packB 1 p1.hl p1.hd body1) → Has W (cutV v (70 + 62) (packB 1 p1.hl p1.hd body1).length) body1 := fun h => by
      have h1 := h.cut (70 + 62) (packB 1 p1.hl p1.hd body1).length (by rw [hlen]; omega) (Nat.le_refl _)
      have e : ((packB 1 p1.hl p1.hd body1).drop (70 + 62)).take ((packB 1 p1.hl p1.hd body1).length - (70 + 62)) = body1 := by
        rw [List.take_of_length_le (by rw [List.length_drop]; omega)]
        have h2 := hbo
        unfold boD at h2
        rw [pack_kd hk kp1.l kp1.d] at h2
        exact h2
      rw [e] at h1
      exact h1
    have hov : decide (ofV (offB o1) = o1) = true := decide_eq_true (by unfold ofV; rw [if_pos (off_E ko1 hro), off_of ko1])
    refine EW.region ?_
    refine WL.load rfl rfl rfl (ldPk bp7 kp1) ?_
    refine WL.call [p1.v] enter9 rfl rfl rfl (pack_any p1 _ body1 w7 rt7) ?_
    rintro _ w8 ⟨v, rfl, ov8, be8⟩
    have bp8 := bp7.on be8
    have bo8 := bo7.on be8
    have rt8 := rt7.below be8
    have sb8 := sb7.trans (be8.mono sb7.size)
    have sz8 := be8.size
    refine ⟨_, rfl, ?_⟩
    first | refine WL.move rfl rfl rfl ?_
    first | refine WL.extract rfl rfl rfl (ext_2 _ _ _).1 ?_
    first | refine WL.extract rfl rfl rfl (ext_2 _ _ _).2 ?_
    first | refine WL.assign rfl rfl rfl ?_
    first | refine WL.assign rfl rfl rfl ?_
    refine WL.done ?_
    refine EW.on ?_
    refine EW.seq ?_
    refine EW.region ?_
    first | refine WL.move rfl rfl rfl ?_
    refine WL.call [v] enter11 rfl rfl rfl (unpack_any v _ w8 ov8.has (by rw [hlen]; omega)) ?_
    rintro _ w9 ⟨pq, rfl, _, hok, be9⟩
    rw [hun]
    obtain ⟨vy, hpq, oy9⟩ := hok hun
    rw [hpk] at hpq
    rw [hbo] at oy9
    have kq : pq.ok := by rw [hpq]; exact ⟨kp1.l, kp1.d⟩
    have bp9 := bp8.on be9
    have bo9 := bo8.on be9
    have rt9 := rt8.below be9
    have ov9 := ov8.below be9
    have sb9 := sb8.trans (be9.mono sb8.size)
    have sz9 := be9.size
    refine ⟨_, rfl, ?_⟩
    obtain ⟨wa9, w10, qq, ra10, rs10, bq10, bea10, hqq⟩ := new33 w9 pq kq (by rw [hpq]; exact oy9.has.sl)
    have bp10 := bp9.on bea10
    have bo10 := bo9.on bea10
    have rt10 := rt9.below bea10
    have ov10 := ov9.below bea10
    have oy10 := oy9.below bea10
    have sb10 := sb9.trans (bea10.mono sb9.size)
    have sz10 := bea10.size
    first | refine WL.move rfl rfl rfl ?_
    first | refine WL.extract rfl rfl rfl (ext_2 _ _ _).1 ?_
    first | refine WL.extract rfl rfl rfl (ext_2 _ _ _).2 ?_
    refine WL.new rfl rfl ra10 ?_
    refine WL.store rfl rfl rfl rs10 ?_
    first | refine WL.assign rfl rfl rfl ?_
    refine WL.done ?_
    refine EW.on ?_
    refine EW.seq ?_
    refine EW.seq ?_
    refine EW.region ?_
    first | refine WL.move rfl rfl rfl ?_
    first | refine WL.bin rfl rfl rfl rfl (int_ne_f rfl _ _ _) ?_ | refine WL.bin rfl rfl rfl rfl (int_ne_t ‹_› _ _ _) ?_ | refine WL.bin rfl rfl rfl rfl (int_ne_f ‹_› _ _ _) ?_ | refine WL.bin rfl rfl rfl rfl (int_ne_t (by decide) _ _ _) ?_ | refine WL.bin rfl rfl rfl rfl (int_ne_d _ _ _ _ _) ?_
    first | refine WL.move rfl rfl rfl ?_
    first | refine WL.move rfl rfl rfl ?_ | refine WL.skip _ rfl rfl rfl ?_
    first | refine WL.bin rfl rfl rfl rfl (int_ne_f rfl _ _ _) ?_ | refine WL.bin rfl rfl rfl rfl (int_ne_t ‹_› _ _ _) ?_ | refine WL.bin rfl rfl rfl rfl (int_ne_f ‹_› _ _ _) ?_ | refine WL.bin rfl rfl rfl rfl (int_ne_t (by decide) _ _ _) ?_ | refine WL.bin rfl rfl rfl rfl (int_ne_d _ _ _ _ _) ?_ | refine WL.skip _ rfl rfl rfl ?_
    first | refine WL.pick rfl rfl rfl rfl ?_
    first | refine WL.move rfl rfl rfl ?_
    refine WL.load rfl rfl rfl (ldPk bp10 kp1) ?_
    refine WL.load rfl rfl rfl (ldPk bq10 kq) ?_
    refine WL.call [p1.v, pq.v] enter15 rfl rfl rfl (same_yes p1 pq kp1 kq body1 w10 rt10.hs (by rw [hpq]; exact oy10.has) (by rw [hpq]; exact rt10.hk) (by rw [hpq]) (by rw [hpq])) ?_
    rintro _ w11 ⟨rfl, be11⟩
    have bp11 := bp10.on be11
    have bo11 := bo10.on be11
    have rt11 := rt10.below be11
    have ov11 := ov10.below be11
    have oy11 := oy10.below be11
    have bq11 := bq10.on be11
    have sb11 := sb10.trans (be11.mono sb10.size)
    have sz11 := be11.size
    refine ⟨_, rfl, ?_⟩
    first | refine WL.un rfl rfl rfl (not_t _ _) ?_ | refine WL.skip _ rfl rfl rfl ?_
    first | refine WL.pick rfl rfl rfl rfl ?_
    refine WL.done ?_
    refine EW.on ?_
    refine EW.cond_f rfl ?_
    refine EW.skip ?_
    refine EW.on ?_
    refine EW.seq ?_
    refine EW.region ?_
    first | refine WL.assign rfl rfl rfl ?_
    refine WL.done ?_
    refine EW.on ?_
    refine EW.seq ?_
    refine EW.seq ?_
    refine EW.region ?_
    refine WL.field rfl rfl rfl (f33_0 qp 0 _) ?_
    refine WL.load rfl rfl rfl (ldPkK bp11) ?_
    rw [rt11.hk]
    refine WL.bin rfl rfl rfl rfl (int_eq_t rfl _ _ _) ?_
    refine WL.done ?_
    refine EW.on ?_
    refine EW.cond_t rfl ?_
    refine EW.region ?_
    first | refine WL.assign rfl rfl rfl ?_
    refine WL.done ?_
    refine EW.on ?_
    refine EW.seq ?_
    refine EW.region ?_
    refine WL.field rfl rfl rfl (f33_2 qp 0 _) ?_
    refine WL.load rfl rfl rfl (ldPkH bp11 kp1) ?_
    refine WL.call [p1.hd.v] enter16 rfl rfl rfl (encode_any p1.hd kp1.d w11) ?_
    rintro _ w12 ⟨vh, rfl, oh12, be12⟩
    have bp12 := bp11.on be12
    have bo12 := bo11.on be12
    have rt12 := rt11.below be12
    have ov12 := ov11.below be12
    have oy12 := oy11.below be12
    have bq12 := bq11.on be12
    have sb12 := sb11.trans (be12.mono sb11.size)
    have sz12 := be12.size
    refine ⟨_, rfl, ?_⟩
    first | refine WL.assign rfl rfl rfl ?_
    refine WL.done ?_
    refine EW.on ?_
    refine EW.seq ?_
    refine EW.seq ?_
    refine EW.ordB [(0, 0, 0), (1, 0, 0), (2, 0, 0), (3, 0, 0), (4, 0, 0), (5, 0, 1), (6, 0, 0), (7, 0, 0), (8, 0, 0), (9, 0, 0), (10, 0, 0), (11, 0, 0), (12, 0, 0), (13, 0, 0), (14, 0, 0), (15, 0, 0), (16, 0, 0), (17, 0, 0), (18, 0, 0), (19, 0, 0), (20, 0, 0), (21, 1, 1), (22, 0, 0), (23, 0, 0), (24, 0, 0), (25, 0, 0), (26, 0, 0), (27, 0, 0), (28, 0, 0), (29, 0, 0), (30, 0, 1), (31, 1, 1), (32, 0, 0), (33, 0, 0)] (by kernel_rfl) rfl (by kernel_rfl) ?_
    simp only [opsZ, List.getD_cons_zero, List.getD_cons_succ]
    first | refine ZE.move rfl rfl rfl rfl sz0 ?_
    refine ZE.len rfl rfl rfl rfl sz0 (fun W => ov12.len W _) ?_
    first | refine ZE.move rfl rfl rfl rfl sz0 ?_
    refine ZE.bin rfl rfl rfl rfl rfl sz0 (fun W => int_add (c := 132) (by decide) W _ _) ?_
    refine ZE.field rfl rfl rfl rfl sz0 (fun W => f33_3 qp 0 W) ?_
    refine ZE.load rfl rfl rfl rfl sz1 (fun W hW => ldPkB (bp12.on (sb_of hW)) kp1) ?_
    refine ZE.len rfl rfl rfl rfl sz0 (fun W => rt12.hs.len W _) ?_
    refine ZE.bin rfl rfl rfl rfl rfl sz0 (fun W => int_add (c := (132 + body1.length : Nat)) (by rw [IntKind.wrap_i64]; omega) W _ _) ?_
    refine ZE.bin rfl rfl rfl rfl rfl sz0 (fun W => int_ne_f (by rw [hlen]) W _ _) ?_
    first | refine ZE.move rfl rfl rfl rfl sz0 ?_
    first | refine ZE.move rfl rfl rfl rfl sz0 ?_ | refine ZE.skip rfl rfl rfl sz0 ?_
    refine ZE.len rfl rfl rfl rfl sz0 (fun W => oh12.len W _) ?_
    refine ZE.bin rfl rfl rfl rfl rfl sz0 (fun W => int_ne_f (by rw [encH_len kp1.d]; rfl) W _ _) ?_
    first | refine ZE.pick rfl rfl rfl rfl rfl sz0 ?_
    first | refine ZE.move rfl rfl rfl rfl sz0 ?_
    first | refine ZE.move rfl rfl rfl rfl sz0 ?_ | refine ZE.skip rfl rfl rfl sz0 ?_
    first | refine ZE.move rfl rfl rfl rfl sz0 ?_ | refine ZE.skip rfl rfl rfl sz0 ?_
    first | refine ZE.move rfl rfl rfl rfl sz0 ?_ | refine ZE.skip rfl rfl rfl sz0 ?_
    refine ZE.bin rfl rfl rfl rfl rfl sz0 (fun W => int_add (c := ((70 + 60 : Nat) : Int)) (by decide) W _ _) ?_
    refine ZE.slice2 rfl rfl rfl rfl rfl rfl sz0 (fun W => by rw [sl22]; exact ov12.has.cutLH 70 (70 + 60) (by decide) (by rw [hlen]; omega) W) ?_
    first | refine ZE.move rfl rfl rfl rfl sz0 ?_ | refine ZE.skip rfl rfl rfl sz0 ?_
    refine ZE.callV [cutV v 70 (70 + 60), vh] (.bool true) (fun W => Below w12.heap.size w12 W) enter14 rfl rfl rfl (fun _ h => .inr h) (fun W hW => (eq_yes _ _ (encH p1.hd) W (hcA (Ob.has (Ob.below ov12 hW))) ((Ob.below oh12 hW).has)).mono fun e w' ⟨h1, h2⟩ => ⟨h1, by rw [h2]; exact hW⟩) ?_
    first | refine ZE.un rfl rfl rfl rfl sz0 (fun W => not_t _ W) ?_ | refine ZE.skip rfl rfl rfl sz0 ?_
    first | refine ZE.pick rfl rfl rfl rfl rfl sz0 ?_
    first | refine ZE.move rfl rfl rfl rfl sz0 ?_
    first | refine ZE.move rfl rfl rfl rfl sz0 ?_ | refine ZE.skip rfl rfl rfl sz0 ?_
    first | refine ZE.move rfl rfl rfl rfl sz0 ?_ | refine ZE.skip rfl rfl rfl sz0 ?_
    refine ZE.bin rfl rfl rfl rfl rfl sz0 (fun W => int_add (c := ((70 + 62 : Nat) : Int)) (by decide) W _ _) ?_
    refine ZE.sliceL rfl rfl rfl rfl rfl sz0 (fun W => by rw [sl22]; exact ov12.has.cutL (70 + 62) (by rw [hlen]; omega) W) ?_
    refine ZE.field rfl rfl rfl rfl sz0 (fun W => f33_3 qp 0 W) ?_
    refine ZE.load rfl rfl rfl rfl sz1 (fun W hW => ldPkB (bp12.on (sb_of hW)) kp1) ?_
    refine ZE.callV [cutV v (70 + 62) (packB 1 p1.hl p1.hd body1).length, p1.bv] (.bool true) (fun W => Below w12.heap.size w12 W) enter14 rfl rfl rfl (fun _ h => .inr h) (fun W hW => (eq_yes _ _ body1 W (hcB (Ob.has (Ob.below ov12 hW))) ((rt12.below hW).hs)).mono fun e w' ⟨h1, h2⟩ => ⟨h1, by rw [h2]; exact hW⟩) ?_
    first | refine ZE.un rfl rfl rfl rfl sz0 (fun W => not_t _ W) ?_ | refine ZE.skip rfl rfl rfl sz0 ?_
    first | refine ZE.pick rfl rfl rfl rfl rfl sz0 ?_
    intro w13 be13
    have bp13 := bp12.on be13
    have bo13 := bo12.on be13
    have rt13 := rt12.below be13
    have ov13 := ov12.below be13
    have oy13 := oy12.below be13
    have bq13 := bq12.on be13
    have oh13 := oh12.below be13
    have sb13 := sb12.trans (be13.mono sb12.size)
    have sz13 := be13.size
    refine EW.on ?_
    refine EW.cond_f rfl ?_
    refine EW.skip ?_
    refine EW.on ?_
    refine EW.seq ?_
    refine EW.region ?_
    refine WL.load rfl rfl rfl (ldOf bo13 ko1) ?_
    refine WL.call [o1.v] enter13 rfl rfl rfl (offer_any o1 ko1 w13) ?_
    rintro _ w14 ⟨vo, rfl, oo14, be14⟩
    have bp14 := bp13.on be14
    have bo14 := bo13.on be14
    have rt14 := rt13.below be14
    have ov14 := ov13.below be14
    have oy14 := oy13.below be14
    have bq14 := bq13.on be14
    have oh14 := oh13.below be14
    have sb14 := sb13.trans (be14.mono sb13.size)
    have sz14 := be14.size
    refine ⟨_, rfl, ?_⟩
    first | refine WL.assign rfl rfl rfl ?_
    refine WL.done ?_
    refine EW.on ?_
    refine EW.seq ?_
    refine EW.region ?_
    first | refine WL.move rfl rfl rfl ?_
    refine WL.call [vo] enter12 rfl rfl rfl (roffer_any vo _ w14 oo14.has (by rw [offB_len ko1]; decide)) ?_
    rintro _ w15 ⟨rfl, be15⟩
    rw [off_E ko1 hro]
    have bp15 := bp14.on be15
    have bo15 := bo14.on be15
    have rt15 := rt14.below be15
    have ov15 := ov14.below be15
    have oy15 := oy14.below be15
    have bq15 := bq14.on be15
    have oh15 := oh14.below be15
    have oo15 := oo14.below be15
    have sb15 := sb14.trans (be15.mono sb14.size)
    have sz15 := be15.size
    refine ⟨_, rfl, ?_⟩
    obtain ⟨wa15, w16, qd, ra16, rs16, bd16, bea16, hqd⟩ := new42 w15 (ofV _) (ofV_ok _)
    have bp16 := bp15.on bea16
    have bo16 := bo15.on bea16
    have rt16 := rt15.below bea16
    have ov16 := ov15.below bea16
    have oy16 := oy15.below bea16
    have bq16 := bq15.on bea16
    have oh16 := oh15.below bea16
    have oo16 := oo15.below bea16
    have sb16 := sb15.trans (bea16.mono sb15.size)
    have sz16 := bea16.size
    first | refine WL.move rfl rfl rfl ?_
    first | refine WL.extract rfl rfl rfl (ext_2 _ _ _).1 ?_
    first | refine WL.extract rfl rfl rfl (ext_2 _ _ _).2 ?_
    refine WL.new rfl rfl ra16 ?_
    refine WL.store rfl rfl rfl rs16 ?_
    first | refine WL.assign rfl rfl rfl ?_
    refine WL.done ?_
    refine EW.on ?_
    refine EW.seq ?_
    refine EW.region ?_
    first | refine WL.move rfl rfl rfl ?_
    refine WL.call [vo] enter11 rfl rfl rfl (unpack_any vo _ w16 oo16.has (by rw [offB_len ko1]; decide)) ?_
    rintro _ w17 ⟨pu, rfl, hbad, _, be17⟩
    have hpu := hbad (by rw [off_un ko1]; decide)
    rw [off_un ko1, hpu]
    have bp17 := bp16.on be17
    have bo17 := bo16.on be17
    have rt17 := rt16.below be17
    have ov17 := ov16.below be17
    have oy17 := oy16.below be17
    have bq17 := bq16.on be17
    have oh17 := oh16.below be17
    have oo17 := oo16.below be17
    have bd17 := bd16.on be17
    have sb17 := sb16.trans (be17.mono sb16.size)
    have sz17 := be17.size
    refine ⟨_, rfl, ?_⟩
    obtain ⟨wa17, w18, qu, ra18, rs18, bu18, bea18, hqu⟩ := new33 w17 Pk.z Pk.z_ok ⟨_, _, _, rfl⟩
    have bp18 := bp17.on bea18
    have bo18 := bo17.on bea18
    have rt18 := rt17.below bea18
    have ov18 := ov17.below bea18
    have oy18 := oy17.below bea18
    have bq18 := bq17.on bea18
    have oh18 := oh17.below bea18
    have oo18 := oo17.below bea18
    have bd18 := bd17.on bea18
    have sb18 := sb17.trans (bea18.mono sb17.size)
    have sz18 := bea18.size
    first | refine WL.move rfl rfl rfl ?_
    first | refine WL.extract rfl rfl rfl (ext_2 _ _ _).1 ?_
    first | refine WL.extract rfl rfl rfl (ext_2 _ _ _).2 ?_
    refine WL.new rfl rfl ra18 ?_
    refine WL.store rfl rfl rfl rs18 ?_
    first | refine WL.assign rfl rfl rfl ?_
    refine WL.done ?_
    refine EW.on ?_
    refine EW.seq ?_
    refine EW.region ?_
    first | refine WL.move rfl rfl rfl ?_
    refine WL.call [v] enter12 rfl rfl rfl (roffer_any v _ w18 ov18.has (by rw [hlen]; omega)) ?_
    rintro _ w19 ⟨rfl, be19⟩
    rw [pack_of hk kp1.l kp1.d]
    have bp19 := bp18.on be19
    have bo19 := bo18.on be19
    have rt19 := rt18.below be19
    have ov19 := ov18.below be19
    have oy19 := oy18.below be19
    have bq19 := bq18.on be19
    have oh19 := oh18.below be19
    have oo19 := oo18.below be19
    have bd19 := bd18.on be19
    have sb19 := sb18.trans (be19.mono sb18.size)
    have sz19 := be19.size
    refine ⟨_, rfl, ?_⟩
    obtain ⟨wa19, w20, qe, ra20, rs20, be_20, bea20, hqe⟩ := new42 w19 (ofV _) (ofV_ok _)
    have bp20 := bp19.on bea20
    have bo20 := bo19.on bea20
    have rt20 := rt19.below bea20
    have ov20 := ov19.below bea20
    have oy20 := oy19.below bea20
    have bq20 := bq19.on bea20
    have oh20 := oh19.below bea20
    have oo20 := oo19.below bea20
    have bd20 := bd19.on bea20
    have sb20 := sb19.trans (bea20.mono sb19.size)
    have sz20 := bea20.size
    first | refine WL.move rfl rfl rfl ?_
    first | refine WL.extract rfl rfl rfl (ext_2 _ _ _).1 ?_
    first | refine WL.extract rfl rfl rfl (ext_2 _ _ _).2 ?_
    refine WL.new rfl rfl ra20 ?_
    refine WL.store rfl rfl rfl rs20 ?_
    first | refine WL.assign rfl rfl rfl ?_
    refine WL.done ?_
    refine EW.on ?_
    refine EW.seq ?_
    refine EW.region ?_
    first | refine WL.move rfl rfl rfl ?_
    refine WL.len rfl rfl rfl (oo20.len _ _) ?_
    refine WL.bin rfl rfl rfl rfl (int_eq_t (by rw [offB_len ko1]; rfl) _ _ _) ?_
    first | refine WL.move rfl rfl rfl ?_
    first | refine WL.move rfl rfl rfl ?_ | refine WL.skip _ rfl rfl rfl ?_
    first | refine WL.bin rfl rfl rfl rfl (int_eq_t rfl _ _ _) ?_ | refine WL.bin rfl rfl rfl rfl (int_eq_t ‹_› _ _ _) ?_ | refine WL.bin rfl rfl rfl rfl (int_eq_f ‹_› _ _ _) ?_ | refine WL.bin rfl rfl rfl rfl (int_eq_d _ _ _ _ _) ?_ | refine WL.skip _ rfl rfl rfl ?_
    first | refine WL.pick rfl rfl rfl rfl ?_
    first | refine WL.move rfl rfl rfl ?_
    refine WL.load rfl rfl rfl (ldOf bd20 (ofV_ok _)) ?_
    refine WL.load rfl rfl rfl (ldOf bo20 ko1) ?_
    refine WL.bin rfl rfl rfl rfl (eql42 _ _ (ofV_ok _) ko1 _ _ _) ?_
    rw [hov]
    first | refine WL.pick rfl rfl rfl rfl ?_
    first | refine WL.move rfl rfl rfl ?_
    first | refine WL.move rfl rfl rfl ?_ | refine WL.skip _ rfl rfl rfl ?_
    first | refine WL.bin rfl rfl rfl rfl (int_eq_t rfl _ _ _) ?_ | refine WL.bin rfl rfl rfl rfl (int_eq_t ‹_› _ _ _) ?_ | refine WL.bin rfl rfl rfl rfl (int_eq_f ‹_› _ _ _) ?_ | refine WL.bin rfl rfl rfl rfl (int_eq_d _ _ _ _ _) ?_ | refine WL.skip _ rfl rfl rfl ?_
    first | refine WL.pick rfl rfl rfl rfl ?_
    first | refine WL.move rfl rfl rfl ?_
    first | refine WL.move rfl rfl rfl ?_ | refine WL.skip _ rfl rfl rfl ?_
    first | refine WL.bin rfl rfl rfl rfl (int_eq_t rfl _ _ _) ?_ | refine WL.bin rfl rfl rfl rfl (int_eq_t ‹_› _ _ _) ?_ | refine WL.bin rfl rfl rfl rfl (int_eq_f ‹_› _ _ _) ?_ | refine WL.bin rfl rfl rfl rfl (int_eq_d _ _ _ _ _) ?_ | refine WL.skip _ rfl rfl rfl ?_
    first | refine WL.pick rfl rfl rfl rfl ?_
    first | refine WL.assign rfl rfl rfl ?_
    refine WL.done ?_
    refine EW.on ?_
    refine EW.ret ?_
    exact EW.returns Try.results6 rfl ⟨rfl, sb20⟩
  · have hlen : (packB 2 p1.hl p1.hd body1).length = 64 + body1.length := packB_len hk kp1.l kp1.d body1
    obtain ⟨_, hsu, hb1, hb2⟩ := flt_ok fl1
    have hun := pack_un hk kp1.l kp1.d body1 fl1
    have hpk := pack_pk hk kp1.l kp1.d body1 fl1
    have hbo := pack_bo hk kp1.l kp1.d body1
    have hcA : ∀ {W : World} {v : Value}, Has W v (packB 2 p1.hl p1.hd body1) → Has W (cutV v 2 (2 + 60)) (encH p1.hd) := fun h => by
      have h1 := h.cut 2 (2 + 60) (by decide) (by rw [hlen]; omega)
      have e : ((packB 2 p1.hl p1.hd body1).drop 2).take (2 + 60 - 2) = encH p1.hd := cutB_mid (a := [1, 2]) (b := lenB body1.length ++ body1) (by simp [packB]) (by simp [encL_len kp1.l]) (encH_len kp1.d)
      rw [e] at h1
      exact h1
    have hcB : ∀ {W : World} {v : Value}, Has W v (packB 2 p1.hl p1.hd body1) → Has W (cutV v (2 + 62) (packB 2 p1.hl p1.hd body1).length) body1 := fun h => by
      have h1 := h.cut (2 + 62) (packB 2 p1.hl p1.hd body1).length (by rw [hlen]; omega) (Nat.le_refl _)
      have e : ((packB 2 p1.hl p1.hd body1).drop (2 + 62)).take ((packB 2 p1.hl p1.hd body1).length - (2 + 62)) = body1 := by
        rw [List.take_of_length_le (by rw [List.length_drop]; omega)]
        have h2 := hbo
        unfold boD at h2
        rw [pack_kd hk kp1.l kp1.d] at h2
        exact h2
      rw [e] at h1
      exact h1
    have hov : decide (ofV (offB o1) = o1) = true := decide_eq_true (by unfold ofV; rw [if_pos (off_E ko1 hro), off_of ko1])
    refine EW.region ?_
    refine WL.load rfl rfl rfl (ldPk bp7 kp1) ?_
    refine WL.call [p1.v] enter9 rfl rfl rfl (pack_any p1 _ body1 w7 rt7) ?_
    rintro _ w8 ⟨v, rfl, ov8, be8⟩
    have bp8 := bp7.on be8
    have bo8 := bo7.on be8
    have rt8 := rt7.below be8
    have sb8 := sb7.trans (be8.mono sb7.size)
    have sz8 := be8.size
    refine ⟨_, rfl, ?_⟩
    first | refine WL.move rfl rfl rfl ?_
    first | refine WL.extract rfl rfl rfl (ext_2 _ _ _).1 ?_
    first | refine WL.extract rfl rfl rfl (ext_2 _ _ _).2 ?_
    first | refine WL.assign rfl rfl rfl ?_
    first | refine WL.assign rfl rfl rfl ?_
    refine WL.done ?_
    refine EW.on ?_
    refine EW.seq ?_
    refine EW.region ?_
    first | refine WL.move rfl rfl rfl ?_
    refine WL.call [v] enter11 rfl rfl rfl (unpack_any v _ w8 ov8.has (by rw [hlen]; omega)) ?_
    rintro _ w9 ⟨pq, rfl, _, hok, be9⟩
    rw [hun]
    obtain ⟨vy, hpq, oy9⟩ := hok hun
    rw [hpk] at hpq
    rw [hbo] at oy9
    have kq : pq.ok := by rw [hpq]; exact ⟨kp1.l, kp1.d⟩
    have bp9 := bp8.on be9
    have bo9 := bo8.on be9
    have rt9 := rt8.below be9
    have ov9 := ov8.below be9
    have sb9 := sb8.trans (be9.mono sb8.size)
    have sz9 := be9.size
    refine ⟨_, rfl, ?_⟩
    obtain ⟨wa9, w10, qq, ra10, rs10, bq10, bea10, hqq⟩ := new33 w9 pq kq (by rw [hpq]; exact oy9.has.sl)
    have bp10 := bp9.on bea10
    have bo10 := bo9.on bea10
    have rt10 := rt9.below bea10
    have ov10 := ov9.below bea10
    have oy10 := oy9.below bea10
    have sb10 := sb9.trans (bea10.mono sb9.size)
    have sz10 := bea10.size
    first | refine WL.move rfl rfl rfl ?_
    first | refine WL.extract rfl rfl rfl (ext_2 _ _ _).1 ?_
    first | refine WL.extract rfl rfl rfl (ext_2 _ _ _).2 ?_
    refine WL.new rfl rfl ra10 ?_
    refine WL.store rfl rfl rfl rs10 ?_
    first | refine WL.assign rfl rfl rfl ?_
    refine WL.done ?_
    refine EW.on ?_
    refine EW.seq ?_
    refine EW.seq ?_
    refine EW.region ?_
    first | refine WL.move rfl rfl rfl ?_
    first | refine WL.bin rfl rfl rfl rfl (int_ne_f rfl _ _ _) ?_ | refine WL.bin rfl rfl rfl rfl (int_ne_t ‹_› _ _ _) ?_ | refine WL.bin rfl rfl rfl rfl (int_ne_f ‹_› _ _ _) ?_ | refine WL.bin rfl rfl rfl rfl (int_ne_t (by decide) _ _ _) ?_ | refine WL.bin rfl rfl rfl rfl (int_ne_d _ _ _ _ _) ?_
    first | refine WL.move rfl rfl rfl ?_
    first | refine WL.move rfl rfl rfl ?_ | refine WL.skip _ rfl rfl rfl ?_
    first | refine WL.bin rfl rfl rfl rfl (int_ne_f rfl _ _ _) ?_ | refine WL.bin rfl rfl rfl rfl (int_ne_t ‹_› _ _ _) ?_ | refine WL.bin rfl rfl rfl rfl (int_ne_f ‹_› _ _ _) ?_ | refine WL.bin rfl rfl rfl rfl (int_ne_t (by decide) _ _ _) ?_ | refine WL.bin rfl rfl rfl rfl (int_ne_d _ _ _ _ _) ?_ | refine WL.skip _ rfl rfl rfl ?_
    first | refine WL.pick rfl rfl rfl rfl ?_
    first | refine WL.move rfl rfl rfl ?_
    refine WL.load rfl rfl rfl (ldPk bp10 kp1) ?_
    refine WL.load rfl rfl rfl (ldPk bq10 kq) ?_
    refine WL.call [p1.v, pq.v] enter15 rfl rfl rfl (same_yes p1 pq kp1 kq body1 w10 rt10.hs (by rw [hpq]; exact oy10.has) (by rw [hpq]; exact rt10.hk) (by rw [hpq]) (by rw [hpq])) ?_
    rintro _ w11 ⟨rfl, be11⟩
    have bp11 := bp10.on be11
    have bo11 := bo10.on be11
    have rt11 := rt10.below be11
    have ov11 := ov10.below be11
    have oy11 := oy10.below be11
    have bq11 := bq10.on be11
    have sb11 := sb10.trans (be11.mono sb10.size)
    have sz11 := be11.size
    refine ⟨_, rfl, ?_⟩
    first | refine WL.un rfl rfl rfl (not_t _ _) ?_ | refine WL.skip _ rfl rfl rfl ?_
    first | refine WL.pick rfl rfl rfl rfl ?_
    refine WL.done ?_
    refine EW.on ?_
    refine EW.cond_f rfl ?_
    refine EW.skip ?_
    refine EW.on ?_
    refine EW.seq ?_
    refine EW.region ?_
    first | refine WL.assign rfl rfl rfl ?_
    refine WL.done ?_
    refine EW.on ?_
    refine EW.seq ?_
    refine EW.seq ?_
    refine EW.region ?_
    refine WL.field rfl rfl rfl (f33_0 qp 0 _) ?_
    refine WL.load rfl rfl rfl (ldPkK bp11) ?_
    rw [rt11.hk]
    refine WL.bin rfl rfl rfl rfl (int_eq_f (by decide) _ _ _) ?_
    refine WL.done ?_
    refine EW.on ?_
    refine EW.cond_f rfl ?_
    refine EW.skip ?_
    refine EW.on ?_
    refine EW.seq ?_
    refine EW.region ?_
    refine WL.field rfl rfl rfl (f33_2 qp 0 _) ?_
    refine WL.load rfl rfl rfl (ldPkH bp11 kp1) ?_
    refine WL.call [p1.hd.v] enter16 rfl rfl rfl (encode_any p1.hd kp1.d w11) ?_
    rintro _ w12 ⟨vh, rfl, oh12, be12⟩
    have bp12 := bp11.on be12
    have bo12 := bo11.on be12
    have rt12 := rt11.below be12
    have ov12 := ov11.below be12
    have oy12 := oy11.below be12
    have bq12 := bq11.on be12
    have sb12 := sb11.trans (be12.mono sb11.size)
    have sz12 := be12.size
    refine ⟨_, rfl, ?_⟩
    first | refine WL.assign rfl rfl rfl ?_
    refine WL.done ?_
    refine EW.on ?_
    refine EW.seq ?_
    refine EW.seq ?_
    refine EW.ordB [(0, 0, 0), (1, 0, 0), (2, 0, 0), (3, 0, 0), (4, 0, 0), (5, 0, 1), (6, 0, 0), (7, 0, 0), (8, 0, 0), (9, 0, 0), (10, 0, 0), (11, 0, 0), (12, 0, 0), (13, 0, 0), (14, 0, 0), (15, 0, 0), (16, 0, 0), (17, 0, 0), (18, 0, 0), (19, 0, 0), (20, 0, 0), (21, 1, 1), (22, 0, 0), (23, 0, 0), (24, 0, 0), (25, 0, 0), (26, 0, 0), (27, 0, 0), (28, 0, 0), (29, 0, 0), (30, 0, 1), (31, 1, 1), (32, 0, 0), (33, 0, 0)] (by kernel_rfl) rfl (by kernel_rfl) ?_
    simp only [opsZ, List.getD_cons_zero, List.getD_cons_succ]
    first | refine ZE.move rfl rfl rfl rfl sz0 ?_
    refine ZE.len rfl rfl rfl rfl sz0 (fun W => ov12.len W _) ?_
    first | refine ZE.move rfl rfl rfl rfl sz0 ?_
    refine ZE.bin rfl rfl rfl rfl rfl sz0 (fun W => int_add (c := 64) (by decide) W _ _) ?_
    refine ZE.field rfl rfl rfl rfl sz0 (fun W => f33_3 qp 0 W) ?_
    refine ZE.load rfl rfl rfl rfl sz1 (fun W hW => ldPkB (bp12.on (sb_of hW)) kp1) ?_
    refine ZE.len rfl rfl rfl rfl sz0 (fun W => rt12.hs.len W _) ?_
    refine ZE.bin rfl rfl rfl rfl rfl sz0 (fun W => int_add (c := (64 + body1.length : Nat)) (by rw [IntKind.wrap_i64]; omega) W _ _) ?_
    refine ZE.bin rfl rfl rfl rfl rfl sz0 (fun W => int_ne_f (by rw [hlen]) W _ _) ?_
    first | refine ZE.move rfl rfl rfl rfl sz0 ?_
    first | refine ZE.move rfl rfl rfl rfl sz0 ?_ | refine ZE.skip rfl rfl rfl sz0 ?_
    refine ZE.len rfl rfl rfl rfl sz0 (fun W => oh12.len W _) ?_
    refine ZE.bin rfl rfl rfl rfl rfl sz0 (fun W => int_ne_f (by rw [encH_len kp1.d]; rfl) W _ _) ?_
    first | refine ZE.pick rfl rfl rfl rfl rfl sz0 ?_
    first | refine ZE.move rfl rfl rfl rfl sz0 ?_
    first | refine ZE.move rfl rfl rfl rfl sz0 ?_ | refine ZE.skip rfl rfl rfl sz0 ?_
    first | refine ZE.move rfl rfl rfl rfl sz0 ?_ | refine ZE.skip rfl rfl rfl sz0 ?_
    first | refine ZE.move rfl rfl rfl rfl sz0 ?_ | refine ZE.skip rfl rfl rfl sz0 ?_
    refine ZE.bin rfl rfl rfl rfl rfl sz0 (fun W => int_add (c := ((2 + 60 : Nat) : Int)) (by decide) W _ _) ?_
    refine ZE.slice2 rfl rfl rfl rfl rfl rfl sz0 (fun W => by rw [sl22]; exact ov12.has.cutLH 2 (2 + 60) (by decide) (by rw [hlen]; omega) W) ?_
    first | refine ZE.move rfl rfl rfl rfl sz0 ?_ | refine ZE.skip rfl rfl rfl sz0 ?_
    refine ZE.callV [cutV v 2 (2 + 60), vh] (.bool true) (fun W => Below w12.heap.size w12 W) enter14 rfl rfl rfl (fun _ h => .inr h) (fun W hW => (eq_yes _ _ (encH p1.hd) W (hcA (Ob.has (Ob.below ov12 hW))) ((Ob.below oh12 hW).has)).mono fun e w' ⟨h1, h2⟩ => ⟨h1, by rw [h2]; exact hW⟩) ?_
    first | refine ZE.un rfl rfl rfl rfl sz0 (fun W => not_t _ W) ?_ | refine ZE.skip rfl rfl rfl sz0 ?_
    first | refine ZE.pick rfl rfl rfl rfl rfl sz0 ?_
    first | refine ZE.move rfl rfl rfl rfl sz0 ?_
    first | refine ZE.move rfl rfl rfl rfl sz0 ?_ | refine ZE.skip rfl rfl rfl sz0 ?_
    first | refine ZE.move rfl rfl rfl rfl sz0 ?_ | refine ZE.skip rfl rfl rfl sz0 ?_
    refine ZE.bin rfl rfl rfl rfl rfl sz0 (fun W => int_add (c := ((2 + 62 : Nat) : Int)) (by decide) W _ _) ?_
    refine ZE.sliceL rfl rfl rfl rfl rfl sz0 (fun W => by rw [sl22]; exact ov12.has.cutL (2 + 62) (by rw [hlen]; omega) W) ?_
    refine ZE.field rfl rfl rfl rfl sz0 (fun W => f33_3 qp 0 W) ?_
    refine ZE.load rfl rfl rfl rfl sz1 (fun W hW => ldPkB (bp12.on (sb_of hW)) kp1) ?_
    refine ZE.callV [cutV v (2 + 62) (packB 2 p1.hl p1.hd body1).length, p1.bv] (.bool true) (fun W => Below w12.heap.size w12 W) enter14 rfl rfl rfl (fun _ h => .inr h) (fun W hW => (eq_yes _ _ body1 W (hcB (Ob.has (Ob.below ov12 hW))) ((rt12.below hW).hs)).mono fun e w' ⟨h1, h2⟩ => ⟨h1, by rw [h2]; exact hW⟩) ?_
    first | refine ZE.un rfl rfl rfl rfl sz0 (fun W => not_t _ W) ?_ | refine ZE.skip rfl rfl rfl sz0 ?_
    first | refine ZE.pick rfl rfl rfl rfl rfl sz0 ?_
    intro w13 be13
    have bp13 := bp12.on be13
    have bo13 := bo12.on be13
    have rt13 := rt12.below be13
    have ov13 := ov12.below be13
    have oy13 := oy12.below be13
    have bq13 := bq12.on be13
    have oh13 := oh12.below be13
    have sb13 := sb12.trans (be13.mono sb12.size)
    have sz13 := be13.size
    refine EW.on ?_
    refine EW.cond_f rfl ?_
    refine EW.skip ?_
    refine EW.on ?_
    refine EW.seq ?_
    refine EW.region ?_
    refine WL.load rfl rfl rfl (ldOf bo13 ko1) ?_
    refine WL.call [o1.v] enter13 rfl rfl rfl (offer_any o1 ko1 w13) ?_
    rintro _ w14 ⟨vo, rfl, oo14, be14⟩
    have bp14 := bp13.on be14
    have bo14 := bo13.on be14
    have rt14 := rt13.below be14
    have ov14 := ov13.below be14
    have oy14 := oy13.below be14
    have bq14 := bq13.on be14
    have oh14 := oh13.below be14
    have sb14 := sb13.trans (be14.mono sb13.size)
    have sz14 := be14.size
    refine ⟨_, rfl, ?_⟩
    first | refine WL.assign rfl rfl rfl ?_
    refine WL.done ?_
    refine EW.on ?_
    refine EW.seq ?_
    refine EW.region ?_
    first | refine WL.move rfl rfl rfl ?_
    refine WL.call [vo] enter12 rfl rfl rfl (roffer_any vo _ w14 oo14.has (by rw [offB_len ko1]; decide)) ?_
    rintro _ w15 ⟨rfl, be15⟩
    rw [off_E ko1 hro]
    have bp15 := bp14.on be15
    have bo15 := bo14.on be15
    have rt15 := rt14.below be15
    have ov15 := ov14.below be15
    have oy15 := oy14.below be15
    have bq15 := bq14.on be15
    have oh15 := oh14.below be15
    have oo15 := oo14.below be15
    have sb15 := sb14.trans (be15.mono sb14.size)
    have sz15 := be15.size
    refine ⟨_, rfl, ?_⟩
    obtain ⟨wa15, w16, qd, ra16, rs16, bd16, bea16, hqd⟩ := new42 w15 (ofV _) (ofV_ok _)
    have bp16 := bp15.on bea16
    have bo16 := bo15.on bea16
    have rt16 := rt15.below bea16
    have ov16 := ov15.below bea16
    have oy16 := oy15.below bea16
    have bq16 := bq15.on bea16
    have oh16 := oh15.below bea16
    have oo16 := oo15.below bea16
    have sb16 := sb15.trans (bea16.mono sb15.size)
    have sz16 := bea16.size
    first | refine WL.move rfl rfl rfl ?_
    first | refine WL.extract rfl rfl rfl (ext_2 _ _ _).1 ?_
    first | refine WL.extract rfl rfl rfl (ext_2 _ _ _).2 ?_
    refine WL.new rfl rfl ra16 ?_
    refine WL.store rfl rfl rfl rs16 ?_
    first | refine WL.assign rfl rfl rfl ?_
    refine WL.done ?_
    refine EW.on ?_
    refine EW.seq ?_
    refine EW.region ?_
    first | refine WL.move rfl rfl rfl ?_
    refine WL.call [vo] enter11 rfl rfl rfl (unpack_any vo _ w16 oo16.has (by rw [offB_len ko1]; decide)) ?_
    rintro _ w17 ⟨pu, rfl, hbad, _, be17⟩
    have hpu := hbad (by rw [off_un ko1]; decide)
    rw [off_un ko1, hpu]
    have bp17 := bp16.on be17
    have bo17 := bo16.on be17
    have rt17 := rt16.below be17
    have ov17 := ov16.below be17
    have oy17 := oy16.below be17
    have bq17 := bq16.on be17
    have oh17 := oh16.below be17
    have oo17 := oo16.below be17
    have bd17 := bd16.on be17
    have sb17 := sb16.trans (be17.mono sb16.size)
    have sz17 := be17.size
    refine ⟨_, rfl, ?_⟩
    obtain ⟨wa17, w18, qu, ra18, rs18, bu18, bea18, hqu⟩ := new33 w17 Pk.z Pk.z_ok ⟨_, _, _, rfl⟩
    have bp18 := bp17.on bea18
    have bo18 := bo17.on bea18
    have rt18 := rt17.below bea18
    have ov18 := ov17.below bea18
    have oy18 := oy17.below bea18
    have bq18 := bq17.on bea18
    have oh18 := oh17.below bea18
    have oo18 := oo17.below bea18
    have bd18 := bd17.on bea18
    have sb18 := sb17.trans (bea18.mono sb17.size)
    have sz18 := bea18.size
    first | refine WL.move rfl rfl rfl ?_
    first | refine WL.extract rfl rfl rfl (ext_2 _ _ _).1 ?_
    first | refine WL.extract rfl rfl rfl (ext_2 _ _ _).2 ?_
    refine WL.new rfl rfl ra18 ?_
    refine WL.store rfl rfl rfl rs18 ?_
    first | refine WL.assign rfl rfl rfl ?_
    refine WL.done ?_
    refine EW.on ?_
    refine EW.seq ?_
    refine EW.region ?_
    first | refine WL.move rfl rfl rfl ?_
    refine WL.call [v] enter12 rfl rfl rfl (roffer_any v _ w18 ov18.has (by rw [hlen]; omega)) ?_
    rintro _ w19 ⟨rfl, be19⟩
    rw [pack_of hk kp1.l kp1.d]
    have bp19 := bp18.on be19
    have bo19 := bo18.on be19
    have rt19 := rt18.below be19
    have ov19 := ov18.below be19
    have oy19 := oy18.below be19
    have bq19 := bq18.on be19
    have oh19 := oh18.below be19
    have oo19 := oo18.below be19
    have bd19 := bd18.on be19
    have sb19 := sb18.trans (be19.mono sb18.size)
    have sz19 := be19.size
    refine ⟨_, rfl, ?_⟩
    obtain ⟨wa19, w20, qe, ra20, rs20, be_20, bea20, hqe⟩ := new42 w19 (ofV _) (ofV_ok _)
    have bp20 := bp19.on bea20
    have bo20 := bo19.on bea20
    have rt20 := rt19.below bea20
    have ov20 := ov19.below bea20
    have oy20 := oy19.below bea20
    have bq20 := bq19.on bea20
    have oh20 := oh19.below bea20
    have oo20 := oo19.below bea20
    have bd20 := bd19.on bea20
    have sb20 := sb19.trans (bea20.mono sb19.size)
    have sz20 := bea20.size
    first | refine WL.move rfl rfl rfl ?_
    first | refine WL.extract rfl rfl rfl (ext_2 _ _ _).1 ?_
    first | refine WL.extract rfl rfl rfl (ext_2 _ _ _).2 ?_
    refine WL.new rfl rfl ra20 ?_
    refine WL.store rfl rfl rfl rs20 ?_
    first | refine WL.assign rfl rfl rfl ?_
    refine WL.done ?_
    refine EW.on ?_
    refine EW.seq ?_
    refine EW.region ?_
    first | refine WL.move rfl rfl rfl ?_
    refine WL.len rfl rfl rfl (oo20.len _ _) ?_
    refine WL.bin rfl rfl rfl rfl (int_eq_t (by rw [offB_len ko1]; rfl) _ _ _) ?_
    first | refine WL.move rfl rfl rfl ?_
    first | refine WL.move rfl rfl rfl ?_ | refine WL.skip _ rfl rfl rfl ?_
    first | refine WL.bin rfl rfl rfl rfl (int_eq_t rfl _ _ _) ?_ | refine WL.bin rfl rfl rfl rfl (int_eq_t ‹_› _ _ _) ?_ | refine WL.bin rfl rfl rfl rfl (int_eq_f ‹_› _ _ _) ?_ | refine WL.bin rfl rfl rfl rfl (int_eq_d _ _ _ _ _) ?_ | refine WL.skip _ rfl rfl rfl ?_
    first | refine WL.pick rfl rfl rfl rfl ?_
    first | refine WL.move rfl rfl rfl ?_
    refine WL.load rfl rfl rfl (ldOf bd20 (ofV_ok _)) ?_
    refine WL.load rfl rfl rfl (ldOf bo20 ko1) ?_
    refine WL.bin rfl rfl rfl rfl (eql42 _ _ (ofV_ok _) ko1 _ _ _) ?_
    rw [hov]
    first | refine WL.pick rfl rfl rfl rfl ?_
    first | refine WL.move rfl rfl rfl ?_
    first | refine WL.move rfl rfl rfl ?_ | refine WL.skip _ rfl rfl rfl ?_
    first | refine WL.bin rfl rfl rfl rfl (int_eq_t rfl _ _ _) ?_ | refine WL.bin rfl rfl rfl rfl (int_eq_t ‹_› _ _ _) ?_ | refine WL.bin rfl rfl rfl rfl (int_eq_f ‹_› _ _ _) ?_ | refine WL.bin rfl rfl rfl rfl (int_eq_d _ _ _ _ _) ?_ | refine WL.skip _ rfl rfl rfl ?_
    first | refine WL.pick rfl rfl rfl rfl ?_
    first | refine WL.move rfl rfl rfl ?_
    first | refine WL.move rfl rfl rfl ?_ | refine WL.skip _ rfl rfl rfl ?_
    first | refine WL.bin rfl rfl rfl rfl (int_eq_t rfl _ _ _) ?_ | refine WL.bin rfl rfl rfl rfl (int_eq_t ‹_› _ _ _) ?_ | refine WL.bin rfl rfl rfl rfl (int_eq_f ‹_› _ _ _) ?_ | refine WL.bin rfl rfl rfl rfl (int_eq_d _ _ _ _ _) ?_ | refine WL.skip _ rfl rfl rfl ?_
    first | refine WL.pick rfl rfl rfl rfl ?_
    first | refine WL.assign rfl rfl rfl ?_
    refine WL.done ?_
    refine EW.on ?_
    refine EW.ret ?_
    exact EW.returns Try.results6 rfl ⟨rfl, sb20⟩
end Go.Proofs.Ytobfebpinkikdaa
