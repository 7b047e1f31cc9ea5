import Derived.Test.YtobfebpinkikdaaIoG
set_option linter.unusedVariables false
set_option linter.unusedSimpArgs false
namespace Go.Proofs.Ytobfebpinkikdaa
open Go.RowKit

set_option maxRecDepth 100000 in
set_option maxHeartbeats 16000000 in
theorem plays_any (w : World) (b qb : Nat) (L V : Value) (es : List En3) (kd : Int) (p : Pk) (o : Of) (bv : Value) (bs body : List UInt8) (h0 : Pl0 w b qb L V es p o bv bs body) : Calls Try.prog 17 #[.pointer (some ⟨qb, 0, none⟩), .agg (opC kd p o bv).toArray] w fun e w' => e = .returned (.bool true) ∧ (∃ L' V' es', Bk w' b qb L' V' es' ∧ es'.length ≤ es.length + 2 ∧ Nw w L L' ∧ Nw w V V') ∧ Fx (bookB qb L V) w w' := by
  obtain ⟨w1, qx, r1, bx1, e1, hqx⟩ := box_any 60 (opC kd p o bv) w
  have l1 := e1.size
  have hb1 := h0.hb.below e1
  have hy1 := h0.hy.below e1
  refine calls_of_args [.pointer (some ⟨qb, 0, none⟩), .agg (opC kd p o bv).toArray] Try.func17 rfl 159 Try.ntmps17 (by show 2 ≤ 159; decide) ?_
  refine EW.seq ?_
  refine EW.region ?_
  refine WL.box rfl rfl rfl r1 ?_
  first | refine WL.assign rfl rfl rfl ?_
  refine WL.done ?_
  refine EW.on ?_
  refine EW.seq ?_
  refine EW.ordB [(0, 0, 0), (1, 0, 1), (3, 0, 0), (4, 0, 0), (5, 0, 1), (2, 1, 1), (6, 1, 1), (7, 0, 0), (8, 0, 0)] (by kernel_rfl) rfl (by kernel_rfl) ?_
  simp only [opsZ, List.getD_cons_zero, List.getD_cons_succ]
  refine ZE.field rfl rfl rfl rfl sz0 (fun W => f60_3 qx _ W) ?_
  refine ZE.load rfl rfl rfl rfl sz1 (fun W hW => ldOpB (bx1.on (sb_of hW)) h0.kp h0.ko) ?_
  refine ZE.field rfl rfl rfl rfl sz0 (fun W => f60_1 qx _ W) ?_
  refine ZE.field rfl rfl rfl rfl sz0 (fun W => f33_3 qx _ W) ?_
  refine ZE.load rfl rfl rfl rfl sz1 (fun W hW => ldOpPB (bx1.on (sb_of hW)) h0.kp) ?_
  refine ZE.callR [bv] (fun u W => Ob W w.heap.size u (bs ++ marks) ∧ Below w1.heap.size w1 W) enter36 rfl rfl rfl (fun _ _ h => .inr h.2) (fun W hW => (room_any bv bs W (hb1.below hW) h0.lb).mono fun e w' ⟨u, g1, g2, g3⟩ => ⟨u, g1, g2.lower (Nat.le_trans l1 hW.size), hW.trans (g3.mono hW.size)⟩) ?_
  rintro vx ⟨_, _⟩
  refine ZE.callR [p.bv] (fun u W => Ob W w.heap.size u (body ++ marks) ∧ Ob W w.heap.size vx (bs ++ marks) ∧ Below w1.heap.size w1 W) enter36 rfl rfl rfl (fun _ _ h => .inr h.2.2) (fun W hW => (room_any p.bv body W (hy1.below hW.2) h0.ly).mono fun e w' ⟨u, g1, g2, g3⟩ => ⟨u, g1, g2.lower (Nat.le_trans l1 hW.2.size), hW.1.below g3, hW.2.trans (g3.mono hW.2.size)⟩) ?_
  rintro vy ⟨_, _⟩
  first | refine ZE.assign rfl rfl rfl rfl sz0 ?_
  first | refine ZE.assign rfl rfl rfl rfl sz0 ?_
  rintro w2 ⟨oy2, ox2, be2⟩
  refine EW.on ?_
  refine EW.seq ?_
  have bx2 := bx1.on be2
  have l2 := be2.size
  have hqxl := bx1.lt
  refine EW.ordB [(0, 0, 0), (1, 0, 0), (2, 0, 1), (3, 0, 0), (4, 0, 0), (5, 0, 0), (6, 0, 1), (7, 1, 1), (8, 0, 0), (9, 1, 0)] (by kernel_rfl) rfl (by kernel_rfl) ?_
  simp only [opsZ, List.getD_cons_zero, List.getD_cons_succ]
  first | refine ZE.move rfl rfl rfl rfl sz0 ?_
  refine ZE.field rfl rfl rfl rfl sz0 (fun W => f60_3 qx _ W) ?_
  refine ZE.load rfl rfl rfl rfl sz1 (fun W hW => ldOpB (bx2.on (sb_of hW)) h0.kp h0.ko) ?_
  refine ZE.len rfl rfl rfl rfl sz0 (fun W => h0.hb.len W _) ?_
  refine ZE.sliceH rfl rfl rfl rfl rfl sz0 (fun W => by rw [sl22]; exact ox2.has.cutH bs.length (by simp) W) ?_
  refine ZE.field rfl rfl rfl rfl sz0 (fun W => f60_1 qx _ W) ?_
  refine ZE.load rfl rfl rfl rfl sz1 (fun W hW => ldOpP (bx2.on (sb_of hW)) h0.kp) ?_
  refine ZE.new (fun v W => (∃ q, v = .pointer (some ⟨q, 0, none⟩) ∧ w2.heap.size ≤ q ∧ Blk W q Pk.z.cs 33) ∧ Below w2.heap.size w2 W) rfl rfl (fun _ _ h => .inr h.2) (fun W hW => by
    obtain ⟨w', q, a1, a2, a3, a4⟩ := new_any (t := 33) (cs := Pk.z.cs) zv33 W
    exact ⟨_, w', a1, ⟨q, rfl, by have := hW.size; omega, a2⟩, hW.trans (a3.mono hW.size)⟩) ?_
  rintro va ⟨_, ⟨qp, hva, hqp, _⟩, _⟩
  subst hva
  first | refine ZE.assign rfl rfl rfl rfl sz0 ?_
  refine ZE.store (fun W => Blk W qp p.cs 33 ∧ Below w2.heap.size w2 W) rfl rfl rfl (fun _ _ => .inl rfl) (fun W hW => by
    obtain ⟨⟨q, hq, _, hbk⟩, hbe⟩ := hW
    simp only [Value.pointer.injEq, Option.some.injEq, Addr.mk.injEq, and_true] at hq
    subst hq
    obtain ⟨w', s1, s2, s3⟩ := stPk hbk Pk.z_ok p h0.kp h0.hy.sl
    exact ⟨w', s1, s2, hbe.trans (s3.low hqp hbe.size)⟩) ?_
  rintro w3 ⟨bp3, be3⟩
  refine EW.on ?_
  refine EW.seq ?_
  refine EW.region ?_
  first | refine WL.move rfl rfl rfl ?_
  refine WL.field rfl rfl rfl (f60_1 qx _ _) ?_
  refine WL.field rfl rfl rfl (f33_3 qx _ _) ?_
  refine WL.load rfl rfl rfl (ldOpPB (bx2.on be3) h0.kp) ?_
  refine WL.len rfl rfl rfl (h0.hy.len _ _) ?_
  refine WL.sliceH rfl rfl rfl rfl (by rw [sl22]; exact oy2.has.cutH body.length (by simp) _) ?_
  refine WL.field rfl rfl rfl (f33_3 qp _ _) ?_
  obtain ⟨w4, s4, bp4, f4⟩ := stPkB bp3 h0.kp (cutV vy 0 body.length) (by obtain ⟨ao, c, e⟩ := cut_shape oy2.has 0 body.length; exact ⟨_, _, _, e⟩)
  refine WL.store rfl rfl rfl s4 ?_
  have be24 : Below w2.heap.size w2 w4 := be3.trans (f4.low hqp be3.size)
  have sz24 := be24.size
  have S4 : Stp w kd p o bv bs body qx qp vx vy w4.heap.size w4 := ⟨bx2.on be24, bp4, ox2.has.below be24, oy2.has.below be24, (e1.trans (be2.mono l1)).trans (be24.mono (Nat.le_trans l1 be2.size)), ⟨by omega, by have := bx2.lt; omega⟩, fun k hk => ⟨ox2.base k hk, by have := (row_lt ox2.row hk).1; omega⟩, fun k hk => ⟨oy2.base k hk, by have := (row_lt oy2.row hk).1; omega⟩, Nat.le_refl _⟩
  have sb4 := Below.refl w4.heap.size w4
  refine WL.done ?_
  refine EW.on ?_
  refine EW.seq ?_
  refine EW.region ?_
  first | refine WL.assign rfl rfl rfl ?_
  refine WL.done ?_
  refine EW.on ?_
  refine EW.seq ?_
  refine EW.seq ?_
  have hkd : kd = 1 ∨ kd = 2 ∨ kd = 3 ∨ kd = 4 ∨ kd = 5 ∨ (¬ kd = 1 ∧ ¬ kd = 2 ∧ ¬ kd = 3 ∧ ¬ kd = 4 ∧ ¬ kd = 5) := by omega
  rcases hkd with rfl | rfl | rfl | rfl | rfl | ⟨g1, g2, g3, g4, g5⟩
  · refine EW.region ?_
    refine WL.field rfl rfl rfl (f60_0 qx 0 _) ?_
    refine WL.load rfl rfl rfl (ldOpK S4.bx) ?_
    refine WL.done ?_
    refine EW.on ?_
    refine EW.block ?_
    refine EW.seq ?_
    refine EW.region ?_
    refine WL.bin rfl rfl rfl rfl (int_eq_t rfl _ _ _) ?_
    first | refine WL.assign rfl rfl rfl ?_
    refine WL.done ?_
    refine EW.on ?_
    refine EW.cond_t rfl ?_
    refine EW.seq ?_
    refine EW.region ?_
    refine WL.field rfl rfl rfl (f60_1 qx _ _) ?_
    refine WL.field rfl rfl rfl (f33_2 qx _ _) ?_
    refine WL.load rfl rfl rfl (ldOpH S4.bx h0.kp) ?_
    refine WL.call [p.hd.v] enter16 rfl rfl rfl (encode_any p.hd h0.kp.d w4) ?_
    rintro _ w5 ⟨v, rfl, ov5, be5⟩
    have S5 := S4.below be5
    have sb5 := sb4.trans (be5.mono sb4.size)
    have sz5 := be5.size
    refine ⟨_, rfl, ?_⟩
    first | refine WL.assign rfl rfl rfl ?_
    refine WL.done ?_
    refine EW.on ?_
    refine EW.seq ?_
    refine EW.region ?_
    first | refine WL.move rfl rfl rfl ?_
    refine WL.field rfl rfl rfl (f60_1 qx _ _) ?_
    refine WL.field rfl rfl rfl (f33_2 qx _ _) ?_
    refine WL.load rfl rfl rfl (ldOpH S5.bx h0.kp) ?_
    refine WL.call [p.hd.v] enter37 rfl rfl rfl (encr_any p.hd h0.kp.d w5) ?_
    rintro _ w6 ⟨v2, rfl, ou6, be6⟩
    have S6 := S5.below be6
    have ov6 := ov5.below be6
    have sb6 := sb5.trans (be6.mono sb5.size)
    have sz6 := be6.size
    refine ⟨_, rfl, ?_⟩
    refine WL.call [v, v2] enter14 rfl rfl rfl (eq_yes v v2 (encH p.hd) w6 ov6.has ou6.has) ?_
    rintro _ w' ⟨rfl, hz⟩
    rw [hz]
    clear hz
    clear w'
    refine ⟨_, rfl, ?_⟩
    first | refine WL.assign rfl rfl rfl ?_
    refine WL.done ?_
    refine EW.on ?_
    refine EW.region ?_
    first | refine WL.move rfl rfl rfl ?_
    first | refine WL.move rfl rfl rfl ?_
    refine WL.call [.pointer (some ⟨qb, 0, none⟩), v] enter38 rfl rfl rfl (note_st S6 h0 ov6 (by rw [encH_len h0.kp.d]; decide)) ?_
    rintro _ w7 ⟨rfl, P7⟩
    have sb7 := Below.refl w7.heap.size w7
    refine ⟨_, rfl, ?_⟩
    refine WL.done ?_
    refine pn_block ?_
    refine EW.on ?_
    refine EW.seq ?_
    refine EW.region ?_
    first | refine WL.move rfl rfl rfl ?_
    first | refine WL.move rfl rfl rfl ?_
    first | refine WL.move rfl rfl rfl ?_ | refine WL.skip _ rfl rfl rfl ?_
    refine WL.field rfl rfl rfl (f60_3 qx _ _) ?_
    refine WL.load rfl rfl rfl (ldOpB P7.bx h0.kp h0.ko) ?_
    refine WL.call [vx, bv] enter43 rfl rfl rfl (kept_yes vx bv bs w7 P7.ox P7.hb h0.lb) ?_
    rintro _ w8 ⟨rfl, be8⟩
    have P8 := P7.below be8
    have sb8 := sb7.trans (be8.mono sb7.size)
    have sz8 := be8.size
    refine ⟨_, rfl, ?_⟩
    first | refine WL.pick rfl rfl rfl rfl ?_
    first | refine WL.move rfl rfl rfl ?_
    first | refine WL.move rfl rfl rfl ?_ | refine WL.skip _ rfl rfl rfl ?_
    refine WL.field rfl rfl rfl (f60_1 qx _ _) ?_
    refine WL.field rfl rfl rfl (f33_3 qx _ _) ?_
    refine WL.load rfl rfl rfl (ldOpPB P8.bx h0.kp) ?_
    refine WL.call [vy, p.bv] enter43 rfl rfl rfl (kept_yes vy p.bv body w8 P8.oy P8.hy h0.ly) ?_
    rintro _ w9 ⟨rfl, be9⟩
    have P9 := P8.below be9
    have sb9 := sb8.trans (be9.mono sb8.size)
    have sz9 := be9.size
    refine ⟨_, rfl, ?_⟩
    first | refine WL.pick rfl rfl rfl rfl ?_
    first | refine WL.assign rfl rfl rfl ?_
    refine WL.done ?_
    refine EW.on ?_
    refine EW.ret ?_
    exact EW.returns Try.results17 rfl ⟨rfl, P9.bk, P9.fx⟩
  · refine EW.region ?_
    refine WL.field rfl rfl rfl (f60_0 qx 0 _) ?_
    refine WL.load rfl rfl rfl (ldOpK S4.bx) ?_
    refine WL.done ?_
    refine EW.on ?_
    refine EW.block ?_
    refine EW.seq ?_
    refine EW.region ?_
    refine WL.bin rfl rfl rfl rfl (int_eq_f (by decide) _ _ _) ?_
    first | refine WL.assign rfl rfl rfl ?_
    refine WL.done ?_
    refine EW.on ?_
    refine EW.cond_f rfl ?_
    refine EW.seq ?_
    refine EW.region ?_
    refine WL.bin rfl rfl rfl rfl (int_eq_t rfl _ _ _) ?_
    first | refine WL.assign rfl rfl rfl ?_
    refine WL.done ?_
    refine EW.on ?_
    refine EW.cond_t rfl ?_
    refine EW.seq ?_
    have kq : Pk.ok ⟨p.k, p.hl, p.hd, cutV vy 0 body.length⟩ := ⟨h0.kp.l, h0.kp.d⟩
    by_cases hf : fltD p.k p.hl body.length = 0
    · obtain ⟨hk0, _, hn1, hn2⟩ := flt_ok hf
      obtain ⟨k, hk, hk12⟩ : ∃ k : Nat, p.k = (k : Int) ∧ (k = 1 ∨ k = 2) := by
        rcases hk0 with e | e
        · exact ⟨1, e, .inl rfl⟩
        · exact ⟨2, e, .inr rfl⟩
      have hfk : fltD (k : Int) p.hl body.length = 0 := by rw [← hk]; exact hf
      refine EW.region ?_
      refine WL.load rfl rfl rfl (ldPk S4.bp kq) ?_
      refine WL.call [Pk.v ⟨p.k, p.hl, p.hd, cutV vy 0 body.length⟩] enter9 rfl rfl rfl (pack_any ⟨p.k, p.hl, p.hd, cutV vy 0 body.length⟩ k body w4 ⟨hk, hk12, kq, hfk, S4.hyn⟩) ?_
      rintro _ w5 ⟨v, rfl, ov5, be5⟩
      have S5 := S4.below be5
      have sb5 := sb4.trans (be5.mono sb4.size)
      have sz5 := be5.size
      refine ⟨_, rfl, ?_⟩
      first | refine WL.move rfl rfl rfl ?_
      first | refine WL.extract rfl rfl rfl (ext_2 _ _ _).1 ?_
      first | refine WL.extract rfl rfl rfl (ext_2 _ _ _).2 ?_
      first | refine WL.assign rfl rfl rfl ?_
      first | refine WL.assign rfl rfl rfl ?_
      refine WL.done ?_
      refine EW.on ?_
      refine EW.seq ?_
      refine EW.region ?_
      refine WL.field rfl rfl rfl (f60_1 qx _ _) ?_
      refine WL.load rfl rfl rfl (ldOpP S5.bx h0.kp) ?_
      refine WL.call [p.v] enter39 rfl rfl rfl (packr_ok p k body w5 ⟨hk, hk12, h0.kp, hfk, h0.hy.below S5.be⟩) ?_
      rintro _ w6 ⟨v2, rfl, ou6, be6⟩
      have S6 := S5.below be6
      have ov6 := ov5.below be6
      have sb6 := sb5.trans (be6.mono sb5.size)
      have sz6 := be6.size
      refine ⟨_, rfl, ?_⟩
      first | refine WL.move rfl rfl rfl ?_
      first | refine WL.extract rfl rfl rfl (ext_2 _ _ _).1 ?_
      first | refine WL.extract rfl rfl rfl (ext_2 _ _ _).2 ?_
      first | refine WL.assign rfl rfl rfl ?_
      first | refine WL.assign rfl rfl rfl ?_
      refine WL.done ?_
      refine EW.on ?_
      refine EW.seq ?_
      refine EW.region ?_
      first | refine WL.move rfl rfl rfl ?_
      first | refine WL.move rfl rfl rfl ?_
      refine WL.bin rfl rfl rfl rfl (int_eq_t rfl _ _ _) ?_
      first | refine WL.move rfl rfl rfl ?_
      first | refine WL.move rfl rfl rfl ?_ | refine WL.skip _ rfl rfl rfl ?_
      first | refine WL.move rfl rfl rfl ?_ | refine WL.skip _ rfl rfl rfl ?_
      refine WL.call [v, v2] enter14 rfl rfl rfl (eq_yes v v2 (packB k p.hl p.hd body) w6 ov6.has ou6.has) ?_
      rintro _ w' ⟨rfl, hz⟩
      rw [hz]
      clear hz
      clear w'
      refine ⟨_, rfl, ?_⟩
      first | refine WL.pick rfl rfl rfl rfl ?_
      first | refine WL.assign rfl rfl rfl ?_
      refine WL.done ?_
      refine EW.on ?_
      refine EW.region ?_
      first | refine WL.move rfl rfl rfl ?_
      first | refine WL.move rfl rfl rfl ?_
      refine WL.call [.pointer (some ⟨qb, 0, none⟩), v] enter38 rfl rfl rfl (note_st S6 h0 ov6 (by have h7 := packB_len hk12 h0.kp.l h0.kp.d body; have h8 := atD_le k; show (packB k p.hl p.hd body).length ≤ 1000000; omega)) ?_
      rintro _ w7 ⟨rfl, P7⟩
      have sb7 := Below.refl w7.heap.size w7
      refine ⟨_, rfl, ?_⟩
      refine WL.done ?_
      refine pn_block ?_
      refine EW.on ?_
      refine EW.seq ?_
      refine EW.region ?_
      first | refine WL.move rfl rfl rfl ?_
      first | refine WL.move rfl rfl rfl ?_
      first | refine WL.move rfl rfl rfl ?_ | refine WL.skip _ rfl rfl rfl ?_
      refine WL.field rfl rfl rfl (f60_3 qx _ _) ?_
      refine WL.load rfl rfl rfl (ldOpB P7.bx h0.kp h0.ko) ?_
      refine WL.call [vx, bv] enter43 rfl rfl rfl (kept_yes vx bv bs w7 P7.ox P7.hb h0.lb) ?_
      rintro _ w8 ⟨rfl, be8⟩
      have P8 := P7.below be8
      have sb8 := sb7.trans (be8.mono sb7.size)
      have sz8 := be8.size
      refine ⟨_, rfl, ?_⟩
      first | refine WL.pick rfl rfl rfl rfl ?_
      first | refine WL.move rfl rfl rfl ?_
      first | refine WL.move rfl rfl rfl ?_ | refine WL.skip _ rfl rfl rfl ?_
      refine WL.field rfl rfl rfl (f60_1 qx _ _) ?_
      refine WL.field rfl rfl rfl (f33_3 qx _ _) ?_
      refine WL.load rfl rfl rfl (ldOpPB P8.bx h0.kp) ?_
      refine WL.call [vy, p.bv] enter43 rfl rfl rfl (kept_yes vy p.bv body w8 P8.oy P8.hy h0.ly) ?_
      rintro _ w9 ⟨rfl, be9⟩
      have P9 := P8.below be9
      have sb9 := sb8.trans (be9.mono sb8.size)
      have sz9 := be9.size
      refine ⟨_, rfl, ?_⟩
      first | refine WL.pick rfl rfl rfl rfl ?_
      first | refine WL.assign rfl rfl rfl ?_
      refine WL.done ?_
      refine EW.on ?_
      refine EW.ret ?_
      exact EW.returns Try.results17 rfl ⟨rfl, P9.bk, P9.fx⟩
    · refine EW.region ?_
      refine WL.load rfl rfl rfl (ldPk S4.bp kq) ?_
      refine WL.call [Pk.v ⟨p.k, p.hl, p.hd, cutV vy 0 body.length⟩] enter9 rfl rfl rfl (pack_bad ⟨p.k, p.hl, p.hd, cutV vy 0 body.length⟩ kq body w4 S4.hyn hf) ?_
      rintro _ w5 ⟨rfl, be5⟩
      have S5 := S4.below be5
      have sb5 := sb4.trans (be5.mono sb4.size)
      have sz5 := be5.size
      refine ⟨_, rfl, ?_⟩
      first | refine WL.move rfl rfl rfl ?_
      first | refine WL.extract rfl rfl rfl (ext_2 _ _ _).1 ?_
      first | refine WL.extract rfl rfl rfl (ext_2 _ _ _).2 ?_
      first | refine WL.assign rfl rfl rfl ?_
      first | refine WL.assign rfl rfl rfl ?_
      refine WL.done ?_
      refine EW.on ?_
      refine EW.seq ?_
      refine EW.region ?_
      refine WL.field rfl rfl rfl (f60_1 qx _ _) ?_
      refine WL.load rfl rfl rfl (ldOpP S5.bx h0.kp) ?_
      refine WL.call [p.v] enter39 rfl rfl rfl (packr_any p h0.kp body w5 (h0.hy.below S5.be) hf) ?_
      rintro _ w6 ⟨rfl, be6⟩
      have S6 := S5.below be6
      have sb6 := sb5.trans (be6.mono sb5.size)
      have sz6 := be6.size
      refine ⟨_, rfl, ?_⟩
      first | refine WL.move rfl rfl rfl ?_
      first | refine WL.extract rfl rfl rfl (ext_2 _ _ _).1 ?_
      first | refine WL.extract rfl rfl rfl (ext_2 _ _ _).2 ?_
      first | refine WL.assign rfl rfl rfl ?_
      first | refine WL.assign rfl rfl rfl ?_
      refine WL.done ?_
      refine EW.on ?_
      refine EW.seq ?_
      refine EW.region ?_
      first | refine WL.move rfl rfl rfl ?_
      first | refine WL.move rfl rfl rfl ?_
      refine WL.bin rfl rfl rfl rfl (int_eq_t rfl _ _ _) ?_
      first | refine WL.move rfl rfl rfl ?_
      first | refine WL.move rfl rfl rfl ?_ | refine WL.skip _ rfl rfl rfl ?_
      first | refine WL.move rfl rfl rfl ?_ | refine WL.skip _ rfl rfl rfl ?_
      refine WL.call [.slice none 0 0, .slice none 0 0] enter14 rfl rfl rfl (eq_yes (.slice none 0 0) (.slice none 0 0) [] w6 (.inl ⟨rfl, rfl⟩) (.inl ⟨rfl, rfl⟩)) ?_
      rintro _ w' ⟨rfl, hz⟩
      rw [hz]
      clear hz
      clear w'
      refine ⟨_, rfl, ?_⟩
      first | refine WL.pick rfl rfl rfl rfl ?_
      first | refine WL.assign rfl rfl rfl ?_
      refine WL.done ?_
      refine EW.on ?_
      refine EW.region ?_
      first | refine WL.move rfl rfl rfl ?_
      first | refine WL.move rfl rfl rfl ?_
      refine WL.call [.pointer (some ⟨qb, 0, none⟩), .slice none 0 0] enter38 rfl rfl rfl (note_st S6 h0 (Ob.nil _ _) (by decide)) ?_
      rintro _ w7 ⟨rfl, P7⟩
      have sb7 := Below.refl w7.heap.size w7
      refine ⟨_, rfl, ?_⟩
      refine WL.done ?_
      refine pn_block ?_
      refine EW.on ?_
      refine EW.seq ?_
      refine EW.region ?_
      first | refine WL.move rfl rfl rfl ?_
      first | refine WL.move rfl rfl rfl ?_
      first | refine WL.move rfl rfl rfl ?_ | refine WL.skip _ rfl rfl rfl ?_
      refine WL.field rfl rfl rfl (f60_3 qx _ _) ?_
      refine WL.load rfl rfl rfl (ldOpB P7.bx h0.kp h0.ko) ?_
      refine WL.call [vx, bv] enter43 rfl rfl rfl (kept_yes vx bv bs w7 P7.ox P7.hb h0.lb) ?_
      rintro _ w8 ⟨rfl, be8⟩
      have P8 := P7.below be8
      have sb8 := sb7.trans (be8.mono sb7.size)
      have sz8 := be8.size
      refine ⟨_, rfl, ?_⟩
      first | refine WL.pick rfl rfl rfl rfl ?_
      first | refine WL.move rfl rfl rfl ?_
      first | refine WL.move rfl rfl rfl ?_ | refine WL.skip _ rfl rfl rfl ?_
      refine WL.field rfl rfl rfl (f60_1 qx _ _) ?_
      refine WL.field rfl rfl rfl (f33_3 qx _ _) ?_
      refine WL.load rfl rfl rfl (ldOpPB P8.bx h0.kp) ?_
      refine WL.call [vy, p.bv] enter43 rfl rfl rfl (kept_yes vy p.bv body w8 P8.oy P8.hy h0.ly) ?_
      rintro _ w9 ⟨rfl, be9⟩
      have P9 := P8.below be9
      have sb9 := sb8.trans (be9.mono sb8.size)
      have sz9 := be9.size
      refine ⟨_, rfl, ?_⟩
      first | refine WL.pick rfl rfl rfl rfl ?_
      first | refine WL.assign rfl rfl rfl ?_
      refine WL.done ?_
      refine EW.on ?_
      refine EW.ret ?_
      exact EW.returns Try.results17 rfl ⟨rfl, P9.bk, P9.fx⟩
  · refine EW.region ?_
    refine WL.field rfl rfl rfl (f60_0 qx 0 _) ?_
    refine WL.load rfl rfl rfl (ldOpK S4.bx) ?_
    refine WL.done ?_
    refine EW.on ?_
    refine EW.block ?_
    refine EW.seq ?_
    refine EW.region ?_
    refine WL.bin rfl rfl rfl rfl (int_eq_f (by decide) _ _ _) ?_
    first | refine WL.assign rfl rfl rfl ?_
    refine WL.done ?_
    refine EW.on ?_
    refine EW.cond_f rfl ?_
    refine EW.seq ?_
    refine EW.region ?_
    refine WL.bin rfl rfl rfl rfl (int_eq_f (by decide) _ _ _) ?_
    first | refine WL.assign rfl rfl rfl ?_
    refine WL.done ?_
    refine EW.on ?_
    refine EW.cond_f rfl ?_
    refine EW.seq ?_
    refine EW.region ?_
    refine WL.bin rfl rfl rfl rfl (int_eq_t rfl _ _ _) ?_
    first | refine WL.assign rfl rfl rfl ?_
    refine WL.done ?_
    refine EW.on ?_
    refine EW.cond_t rfl ?_
    refine EW.seq ?_
    refine EW.region ?_
    first | refine WL.move rfl rfl rfl ?_
    refine WL.call [cutV vx 0 bs.length] enter11 rfl rfl rfl (Calls.mono (unpack_any _ bs w4 S4.hin h0.lb) (fun e w' h => unA_of h)) ?_
    rintro _ w5 ⟨p1, rfl, k1, ov5, g1a, g2a, g3a, be5⟩
    have S5 := S4.below be5
    have sb5 := sb4.trans (be5.mono sb4.size)
    have sz5 := be5.size
    refine ⟨_, rfl, ?_⟩
    obtain ⟨wa5, w6, q15, ra6, rs6, bq6, bea6, hq15⟩ := new33 w5 p1 k1 ov5.has.sl
    have S6 := S5.below bea6
    have ov6 := ov5.below bea6
    have sb6 := sb5.trans (bea6.mono sb5.size)
    have sz6 := bea6.size
    first | refine WL.move rfl rfl rfl ?_
    first | refine WL.extract rfl rfl rfl (ext_2 _ _ _).1 ?_
    first | refine WL.extract rfl rfl rfl (ext_2 _ _ _).2 ?_
    refine WL.new rfl rfl ra6 ?_
    refine WL.store rfl rfl rfl rs6 ?_
    first | refine WL.assign rfl rfl rfl ?_
    refine WL.done ?_
    refine EW.on ?_
    refine EW.seq ?_
    refine EW.region ?_
    refine WL.field rfl rfl rfl (f60_3 qx _ _) ?_
    refine WL.load rfl rfl rfl (ldOpB S6.bx h0.kp h0.ko) ?_
    refine WL.call [bv] enter40 rfl rfl rfl (Calls.mono (unpackr_any bv bs w6 (h0.hb.below S6.be) h0.lb) (fun e w' h => unA_of h)) ?_
    rintro _ w7 ⟨p2, rfl, k2, ou7, g1b, g2b, g3b, be7⟩
    have S7 := S6.below be7
    have ov7 := ov6.below be7
    have bq7 := bq6.on be7
    have sb7 := sb6.trans (be7.mono sb6.size)
    have sz7 := be7.size
    refine ⟨_, rfl, ?_⟩
    obtain ⟨wa7, w8, q17, ra8, rs8, br8, bea8, hq17⟩ := new33 w7 p2 k2 ou7.has.sl
    have S8 := S7.below bea8
    have ov8 := ov7.below bea8
    have bq8 := bq7.on bea8
    have ou8 := ou7.below bea8
    have sb8 := sb7.trans (bea8.mono sb7.size)
    have sz8 := bea8.size
    first | refine WL.move rfl rfl rfl ?_
    first | refine WL.extract rfl rfl rfl (ext_2 _ _ _).1 ?_
    first | refine WL.extract rfl rfl rfl (ext_2 _ _ _).2 ?_
    refine WL.new rfl rfl ra8 ?_
    refine WL.store rfl rfl rfl rs8 ?_
    first | refine WL.assign rfl rfl rfl ?_
    refine WL.done ?_
    refine EW.on ?_
    refine EW.seq ?_
    refine EW.region ?_
    first | refine WL.move rfl rfl rfl ?_
    first | refine WL.move rfl rfl rfl ?_
    refine WL.bin rfl rfl rfl rfl (int_eq_t rfl _ _ _) ?_
    first | refine WL.move rfl rfl rfl ?_
    refine WL.load rfl rfl rfl (ldPk bq8 k1) ?_
    refine WL.load rfl rfl rfl (ldPk br8 k2) ?_
    refine WL.call [p1.v, p2.v] enter15 rfl rfl rfl (same_yes p1 p2 k1 k2 (bdD bs) w8 ov8.has ou8.has (by rw [g1a, g1b]) (by rw [g2a, g2b]) (by rw [g3a, g3b])) ?_
    rintro _ w9 ⟨rfl, be9⟩
    have S9 := S8.below be9
    have ov9 := ov8.below be9
    have bq9 := bq8.on be9
    have ou9 := ou8.below be9
    have br9 := br8.on be9
    have sb9 := sb8.trans (be9.mono sb8.size)
    have sz9 := be9.size
    refine ⟨_, rfl, ?_⟩
    first | refine WL.pick rfl rfl rfl rfl ?_
    first | refine WL.assign rfl rfl rfl ?_
    refine WL.done ?_
    refine EW.on ?_
    refine EW.region ?_
    first | refine WL.move rfl rfl rfl ?_
    refine WL.field rfl rfl rfl (f33_3 q15 0 _) ?_
    refine WL.load rfl rfl rfl (ldPkB bq9 k1) ?_
    refine WL.call [.pointer (some ⟨qb, 0, none⟩), p1.bv] enter38 rfl rfl rfl (note_st S9 h0 ov9 (by have := bdD_len bs; omega)) ?_
    rintro _ w10 ⟨rfl, P10⟩
    have sb10 := Below.refl w10.heap.size w10
    refine ⟨_, rfl, ?_⟩
    refine WL.done ?_
    refine pn_block ?_
    refine EW.on ?_
    refine EW.seq ?_
    refine EW.region ?_
    first | refine WL.move rfl rfl rfl ?_
    first | refine WL.move rfl rfl rfl ?_
    first | refine WL.move rfl rfl rfl ?_ | refine WL.skip _ rfl rfl rfl ?_
    refine WL.field rfl rfl rfl (f60_3 qx _ _) ?_
    refine WL.load rfl rfl rfl (ldOpB P10.bx h0.kp h0.ko) ?_
    refine WL.call [vx, bv] enter43 rfl rfl rfl (kept_yes vx bv bs w10 P10.ox P10.hb h0.lb) ?_
    rintro _ w11 ⟨rfl, be11⟩
    have P11 := P10.below be11
    have sb11 := sb10.trans (be11.mono sb10.size)
    have sz11 := be11.size
    refine ⟨_, rfl, ?_⟩
    first | refine WL.pick rfl rfl rfl rfl ?_
    first | refine WL.move rfl rfl rfl ?_
    first | refine WL.move rfl rfl rfl ?_ | refine WL.skip _ rfl rfl rfl ?_
    refine WL.field rfl rfl rfl (f60_1 qx _ _) ?_
    refine WL.field rfl rfl rfl (f33_3 qx _ _) ?_
    refine WL.load rfl rfl rfl (ldOpPB P11.bx h0.kp) ?_
    refine WL.call [vy, p.bv] enter43 rfl rfl rfl (kept_yes vy p.bv body w11 P11.oy P11.hy h0.ly) ?_
    rintro _ w12 ⟨rfl, be12⟩
    have P12 := P11.below be12
    have sb12 := sb11.trans (be12.mono sb11.size)
    have sz12 := be12.size
    refine ⟨_, rfl, ?_⟩
    first | refine WL.pick rfl rfl rfl rfl ?_
    first | refine WL.assign rfl rfl rfl ?_
    refine WL.done ?_
    refine EW.on ?_
    refine EW.ret ?_
    exact EW.returns Try.results17 rfl ⟨rfl, P12.bk, P12.fx⟩
  · refine EW.region ?_
    refine WL.field rfl rfl rfl (f60_0 qx 0 _) ?_
    refine WL.load rfl rfl rfl (ldOpK S4.bx) ?_
    refine WL.done ?_
    refine EW.on ?_
    refine EW.block ?_
    refine EW.seq ?_
    refine EW.region ?_
    refine WL.bin rfl rfl rfl rfl (int_eq_f (by decide) _ _ _) ?_
    first | refine WL.assign rfl rfl rfl ?_
    refine WL.done ?_
    refine EW.on ?_
    refine EW.cond_f rfl ?_
    refine EW.seq ?_
    refine EW.region ?_
    refine WL.bin rfl rfl rfl rfl (int_eq_f (by decide) _ _ _) ?_
    first | refine WL.assign rfl rfl rfl ?_
    refine WL.done ?_
    refine EW.on ?_
    refine EW.cond_f rfl ?_
    refine EW.seq ?_
    refine EW.region ?_
    refine WL.bin rfl rfl rfl rfl (int_eq_f (by decide) _ _ _) ?_
    first | refine WL.assign rfl rfl rfl ?_
    refine WL.done ?_
    refine EW.on ?_
    refine EW.cond_f rfl ?_
    refine EW.seq ?_
    refine EW.region ?_
    refine WL.bin rfl rfl rfl rfl (int_eq_t rfl _ _ _) ?_
    first | refine WL.assign rfl rfl rfl ?_
    refine WL.done ?_
    refine EW.on ?_
    refine EW.cond_t rfl ?_
    refine EW.seq ?_
    refine EW.region ?_
    refine WL.field rfl rfl rfl (f60_2 qx _ _) ?_
    refine WL.load rfl rfl rfl (ldOpO S4.bx h0.kp h0.ko) ?_
    refine WL.call [o.v] enter13 rfl rfl rfl (offer_any o h0.ko w4) ?_
    rintro _ w5 ⟨v, rfl, ov5, be5⟩
    have S5 := S4.below be5
    have sb5 := sb4.trans (be5.mono sb4.size)
    have sz5 := be5.size
    refine ⟨_, rfl, ?_⟩
    first | refine WL.assign rfl rfl rfl ?_
    refine WL.done ?_
    refine EW.on ?_
    refine EW.seq ?_
    refine EW.region ?_
    first | refine WL.move rfl rfl rfl ?_
    refine WL.field rfl rfl rfl (f60_2 qx _ _) ?_
    refine WL.load rfl rfl rfl (ldOpO S5.bx h0.kp h0.ko) ?_
    refine WL.call [o.v] enter41 rfl rfl rfl (offr_any o h0.ko w5) ?_
    rintro _ w6 ⟨v2, rfl, ou6, be6⟩
    have S6 := S5.below be6
    have ov6 := ov5.below be6
    have sb6 := sb5.trans (be6.mono sb5.size)
    have sz6 := be6.size
    refine ⟨_, rfl, ?_⟩
    refine WL.call [v, v2] enter14 rfl rfl rfl (eq_yes v v2 (offB o) w6 ov6.has ou6.has) ?_
    rintro _ w' ⟨rfl, hz⟩
    rw [hz]
    clear hz
    clear w'
    refine ⟨_, rfl, ?_⟩
    first | refine WL.assign rfl rfl rfl ?_
    refine WL.done ?_
    refine EW.on ?_
    refine EW.region ?_
    first | refine WL.move rfl rfl rfl ?_
    first | refine WL.move rfl rfl rfl ?_
    refine WL.call [.pointer (some ⟨qb, 0, none⟩), v] enter38 rfl rfl rfl (note_st S6 h0 ov6 (by rw [offB_len h0.ko]; decide)) ?_
    rintro _ w7 ⟨rfl, P7⟩
    have sb7 := Below.refl w7.heap.size w7
    refine ⟨_, rfl, ?_⟩
    refine WL.done ?_
    refine pn_block ?_
    refine EW.on ?_
    refine EW.seq ?_
    refine EW.region ?_
    first | refine WL.move rfl rfl rfl ?_
    first | refine WL.move rfl rfl rfl ?_
    first | refine WL.move rfl rfl rfl ?_ | refine WL.skip _ rfl rfl rfl ?_
    refine WL.field rfl rfl rfl (f60_3 qx _ _) ?_
    refine WL.load rfl rfl rfl (ldOpB P7.bx h0.kp h0.ko) ?_
    refine WL.call [vx, bv] enter43 rfl rfl rfl (kept_yes vx bv bs w7 P7.ox P7.hb h0.lb) ?_
    rintro _ w8 ⟨rfl, be8⟩
    have P8 := P7.below be8
    have sb8 := sb7.trans (be8.mono sb7.size)
    have sz8 := be8.size
    refine ⟨_, rfl, ?_⟩
    first | refine WL.pick rfl rfl rfl rfl ?_
    first | refine WL.move rfl rfl rfl ?_
    first | refine WL.move rfl rfl rfl ?_ | refine WL.skip _ rfl rfl rfl ?_
    refine WL.field rfl rfl rfl (f60_1 qx _ _) ?_
    refine WL.field rfl rfl rfl (f33_3 qx _ _) ?_
    refine WL.load rfl rfl rfl (ldOpPB P8.bx h0.kp) ?_
    refine WL.call [vy, p.bv] enter43 rfl rfl rfl (kept_yes vy p.bv body w8 P8.oy P8.hy h0.ly) ?_
    rintro _ w9 ⟨rfl, be9⟩
    have P9 := P8.below be9
    have sb9 := sb8.trans (be9.mono sb8.size)
    have sz9 := be9.size
    refine ⟨_, rfl, ?_⟩
    first | refine WL.pick rfl rfl rfl rfl ?_
    first | refine WL.assign rfl rfl rfl ?_
    refine WL.done ?_
    refine EW.on ?_
    refine EW.ret ?_
    exact EW.returns Try.results17 rfl ⟨rfl, P9.bk, P9.fx⟩
  · refine EW.region ?_
    refine WL.field rfl rfl rfl (f60_0 qx 0 _) ?_
    refine WL.load rfl rfl rfl (ldOpK S4.bx) ?_
    refine WL.done ?_
    refine EW.on ?_
    refine EW.block ?_
    refine EW.seq ?_
    refine EW.region ?_
    refine WL.bin rfl rfl rfl rfl (int_eq_f (by decide) _ _ _) ?_
    first | refine WL.assign rfl rfl rfl ?_
    refine WL.done ?_
    refine EW.on ?_
    refine EW.cond_f rfl ?_
    refine EW.seq ?_
    refine EW.region ?_
    refine WL.bin rfl rfl rfl rfl (int_eq_f (by decide) _ _ _) ?_
    first | refine WL.assign rfl rfl rfl ?_
    refine WL.done ?_
    refine EW.on ?_
    refine EW.cond_f rfl ?_
    refine EW.seq ?_
    refine EW.region ?_
    refine WL.bin rfl rfl rfl rfl (int_eq_f (by decide) _ _ _) ?_
    first | refine WL.assign rfl rfl rfl ?_
    refine WL.done ?_
    refine EW.on ?_
    refine EW.cond_f rfl ?_
    refine EW.seq ?_
    refine EW.region ?_
    refine WL.bin rfl rfl rfl rfl (int_eq_f (by decide) _ _ _) ?_
    first | refine WL.assign rfl rfl rfl ?_
    refine WL.done ?_
    refine EW.on ?_
    refine EW.cond_f rfl ?_
    refine EW.seq ?_
    refine EW.region ?_
    refine WL.bin rfl rfl rfl rfl (int_eq_t rfl _ _ _) ?_
    first | refine WL.assign rfl rfl rfl ?_
    refine WL.done ?_
    refine EW.on ?_
    refine EW.cond_t rfl ?_
    refine EW.seq ?_
    refine EW.region ?_
    first | refine WL.move rfl rfl rfl ?_
    refine WL.call [cutV vx 0 bs.length] enter12 rfl rfl rfl (roffer_any _ bs w4 S4.hin h0.lb) ?_
    rintro _ w5 ⟨rfl, be5⟩
    have S5 := S4.below be5
    have sb5 := sb4.trans (be5.mono sb4.size)
    have sz5 := be5.size
    refine ⟨_, rfl, ?_⟩
    obtain ⟨wa5, w6, q20, ra6, rs6, bq6, bea6, hq20⟩ := new42 w5 (ofV bs) (ofV_ok _)
    have S6 := S5.below bea6
    have sb6 := sb5.trans (bea6.mono sb5.size)
    have sz6 := bea6.size
    first | refine WL.move rfl rfl rfl ?_
    first | refine WL.extract rfl rfl rfl (ext_2 _ _ _).1 ?_
    first | refine WL.extract rfl rfl rfl (ext_2 _ _ _).2 ?_
    refine WL.new rfl rfl ra6 ?_
    refine WL.store rfl rfl rfl rs6 ?_
    first | refine WL.assign rfl rfl rfl ?_
    refine WL.done ?_
    refine EW.on ?_
    refine EW.seq ?_
    refine EW.region ?_
    refine WL.field rfl rfl rfl (f60_3 qx _ _) ?_
    refine WL.load rfl rfl rfl (ldOpB S6.bx h0.kp h0.ko) ?_
    refine WL.call [bv] enter42 rfl rfl rfl (rofferr_any bv bs w6 (h0.hb.below S6.be) h0.lb) ?_
    rintro _ w7 ⟨rfl, be7⟩
    have S7 := S6.below be7
    have bq7 := bq6.on be7
    have sb7 := sb6.trans (be7.mono sb6.size)
    have sz7 := be7.size
    refine ⟨_, rfl, ?_⟩
    obtain ⟨wa7, w8, q22, ra8, rs8, br8, bea8, hq22⟩ := new42 w7 (ofV bs) (ofV_ok _)
    have S8 := S7.below bea8
    have bq8 := bq7.on bea8
    have sb8 := sb7.trans (bea8.mono sb7.size)
    have sz8 := bea8.size
    first | refine WL.move rfl rfl rfl ?_
    first | refine WL.extract rfl rfl rfl (ext_2 _ _ _).1 ?_
    first | refine WL.extract rfl rfl rfl (ext_2 _ _ _).2 ?_
    refine WL.new rfl rfl ra8 ?_
    refine WL.store rfl rfl rfl rs8 ?_
    first | refine WL.assign rfl rfl rfl ?_
    refine WL.done ?_
    refine EW.on ?_
    refine EW.region ?_
    first | refine WL.move rfl rfl rfl ?_
    first | refine WL.move rfl rfl rfl ?_
    refine WL.bin rfl rfl rfl rfl (int_eq_t rfl _ _ _) ?_
    first | refine WL.move rfl rfl rfl ?_
    refine WL.load rfl rfl rfl (ldOf bq8 (ofV_ok _)) ?_
    refine WL.load rfl rfl rfl (ldOf br8 (ofV_ok _)) ?_
    refine WL.bin rfl rfl rfl rfl (eql42 _ _ (ofV_ok _) (ofV_ok _) _ _ _) ?_
    rw [show decide (ofV bs = ofV bs) = true from decide_eq_true rfl]
    first | refine WL.pick rfl rfl rfl rfl ?_
    first | refine WL.assign rfl rfl rfl ?_
    refine WL.done ?_
    refine pn_block ?_
    refine EW.on ?_
    refine EW.seq ?_
    have P8 := S8.pn h0
    refine EW.region ?_
    first | refine WL.move rfl rfl rfl ?_
    first | refine WL.move rfl rfl rfl ?_
    first | refine WL.move rfl rfl rfl ?_ | refine WL.skip _ rfl rfl rfl ?_
    refine WL.field rfl rfl rfl (f60_3 qx _ _) ?_
    refine WL.load rfl rfl rfl (ldOpB P8.bx h0.kp h0.ko) ?_
    refine WL.call [vx, bv] enter43 rfl rfl rfl (kept_yes vx bv bs w8 P8.ox P8.hb h0.lb) ?_
    rintro _ w9 ⟨rfl, be9⟩
    have S9 := S8.below be9
    have bq9 := bq8.on be9
    have br9 := br8.on be9
    have P9 := P8.below be9
    have sb9 := sb8.trans (be9.mono sb8.size)
    have sz9 := be9.size
    refine ⟨_, rfl, ?_⟩
    first | refine WL.pick rfl rfl rfl rfl ?_
    first | refine WL.move rfl rfl rfl ?_
    first | refine WL.move rfl rfl rfl ?_ | refine WL.skip _ rfl rfl rfl ?_
    refine WL.field rfl rfl rfl (f60_1 qx _ _) ?_
    refine WL.field rfl rfl rfl (f33_3 qx _ _) ?_
    refine WL.load rfl rfl rfl (ldOpPB P9.bx h0.kp) ?_
    refine WL.call [vy, p.bv] enter43 rfl rfl rfl (kept_yes vy p.bv body w9 P9.oy P9.hy h0.ly) ?_
    rintro _ w10 ⟨rfl, be10⟩
    have S10 := S9.below be10
    have bq10 := bq9.on be10
    have br10 := br9.on be10
    have P10 := P9.below be10
    have sb10 := sb9.trans (be10.mono sb9.size)
    have sz10 := be10.size
    refine ⟨_, rfl, ?_⟩
    first | refine WL.pick rfl rfl rfl rfl ?_
    first | refine WL.assign rfl rfl rfl ?_
    refine WL.done ?_
    refine EW.on ?_
    refine EW.ret ?_
    exact EW.returns Try.results17 rfl ⟨rfl, P10.bk, P10.fx⟩
  · refine EW.region ?_
    refine WL.field rfl rfl rfl (f60_0 qx 0 _) ?_
    refine WL.load rfl rfl rfl (ldOpK S4.bx) ?_
    refine WL.done ?_
    refine EW.on ?_
    refine EW.block ?_
    refine EW.seq ?_
    refine EW.region ?_
    refine WL.bin rfl rfl rfl rfl (int_eq_f g1 _ _ _) ?_
    first | refine WL.assign rfl rfl rfl ?_
    refine WL.done ?_
    refine EW.on ?_
    refine EW.cond_f rfl ?_
    refine EW.seq ?_
    refine EW.region ?_
    refine WL.bin rfl rfl rfl rfl (int_eq_f g2 _ _ _) ?_
    first | refine WL.assign rfl rfl rfl ?_
    refine WL.done ?_
    refine EW.on ?_
    refine EW.cond_f rfl ?_
    refine EW.seq ?_
    refine EW.region ?_
    refine WL.bin rfl rfl rfl rfl (int_eq_f g3 _ _ _) ?_
    first | refine WL.assign rfl rfl rfl ?_
    refine WL.done ?_
    refine EW.on ?_
    refine EW.cond_f rfl ?_
    refine EW.seq ?_
    refine EW.region ?_
    refine WL.bin rfl rfl rfl rfl (int_eq_f g4 _ _ _) ?_
    first | refine WL.assign rfl rfl rfl ?_
    refine WL.done ?_
    refine EW.on ?_
    refine EW.cond_f rfl ?_
    refine EW.seq ?_
    refine EW.region ?_
    refine WL.bin rfl rfl rfl rfl (int_eq_f g5 _ _ _) ?_
    first | refine WL.assign rfl rfl rfl ?_
    refine WL.done ?_
    refine EW.on ?_
    refine EW.cond_f rfl ?_
    refine EW.skip ?_
    refine pn_block ?_
    refine EW.on ?_
    refine EW.seq ?_
    have P4 := S4.pn h0
    refine EW.region ?_
    first | refine WL.move rfl rfl rfl ?_
    first | refine WL.move rfl rfl rfl ?_
    first | refine WL.move rfl rfl rfl ?_ | refine WL.skip _ rfl rfl rfl ?_
    refine WL.field rfl rfl rfl (f60_3 qx _ _) ?_
    refine WL.load rfl rfl rfl (ldOpB P4.bx h0.kp h0.ko) ?_
    refine WL.call [vx, bv] enter43 rfl rfl rfl (kept_yes vx bv bs w4 P4.ox P4.hb h0.lb) ?_
    rintro _ w5 ⟨rfl, be5⟩
    have S5 := S4.below be5
    have P5 := P4.below be5
    have sb5 := sb4.trans (be5.mono sb4.size)
    have sz5 := be5.size
    refine ⟨_, rfl, ?_⟩
    first | refine WL.pick rfl rfl rfl rfl ?_
    first | refine WL.move rfl rfl rfl ?_
    first | refine WL.move rfl rfl rfl ?_ | refine WL.skip _ rfl rfl rfl ?_
    refine WL.field rfl rfl rfl (f60_1 qx _ _) ?_
    refine WL.field rfl rfl rfl (f33_3 qx _ _) ?_
    refine WL.load rfl rfl rfl (ldOpPB P5.bx h0.kp) ?_
    refine WL.call [vy, p.bv] enter43 rfl rfl rfl (kept_yes vy p.bv body w5 P5.oy P5.hy h0.ly) ?_
    rintro _ w6 ⟨rfl, be6⟩
    have S6 := S5.below be6
    have P6 := P5.below be6
    have sb6 := sb5.trans (be6.mono sb5.size)
    have sz6 := be6.size
    refine ⟨_, rfl, ?_⟩
    first | refine WL.pick rfl rfl rfl rfl ?_
    first | refine WL.assign rfl rfl rfl ?_
    refine WL.done ?_
    refine EW.on ?_
    refine EW.ret ?_
    exact EW.returns Try.results17 rfl ⟨rfl, P6.bk, P6.fx⟩
end Go.Proofs.Ytobfebpinkikdaa
