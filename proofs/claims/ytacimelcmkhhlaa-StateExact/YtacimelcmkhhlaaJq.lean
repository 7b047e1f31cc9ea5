import Derived.Test.YtacimelcmkhhlaaJp
set_option linter.unusedVariables false
set_option linter.unusedSimpArgs false
namespace Go.Proofs.Ytacimelcmkhhlaa
open Go.RowKit

def be16 (n : Nat) : List UInt8 := [UInt8.ofNat (n / 256), UInt8.ofNat (n % 256)]
theorem be16_len (n : Nat) : (be16 n).length = 2 := rfl
set_option maxRecDepth 100000 in
set_option maxHeartbeats 1000000 in
theorem u16_any (M : Nat) (hM : M ≤ 1048576) (b q : Nat) (v : Value) (bs : List UInt8) (x : Nat) (hx : x < 65536) (w : World) (hw : Wr M w b q v bs) (hbw : b ≤ w.heap.size) (hl : bs.length + 2 ≤ M) : Calls Try.prog 32 #[.pointer (some ⟨q, 0, none⟩), .int .i64 (x : Int)] w (WrS M w b q v (bs ++ be16 x)) := by
  have z1 : ¬ (x : Int) < 0 := by omega
  have z2 : ¬ (65535 : Int) < (x : Int) := by omega
  refine calls_of_args [.pointer (some ⟨q, 0, none⟩), .int .i64 (x : Int)] Try.func32 rfl 21 Try.ntmps32 (by show 2 ≤ 21; decide) ?_
  refine EW.seq ?_
  refine EW.seq ?_
  refine EW.region ?_
  first | refine WL.move rfl rfl rfl ?_
  first | refine WL.bin rfl rfl rfl rfl (int_lt_t ‹_› _ _ _) ?_ | refine WL.bin rfl rfl rfl rfl (int_lt_f ‹_› _ _ _) ?_ | refine WL.bin rfl rfl rfl rfl (int_lt_d _ _ _ _ _) ?_
  first | refine WL.move rfl rfl rfl ?_
  first | refine WL.move rfl rfl rfl ?_ | refine WL.skip _ rfl rfl rfl ?_
  first | refine WL.bin rfl rfl rfl rfl (int_gt_t ‹_› _ _ _) ?_ | refine WL.bin rfl rfl rfl rfl (int_gt_f ‹_› _ _ _) ?_ | refine WL.bin rfl rfl rfl rfl (int_gt_d _ _ _ _ _) ?_ | refine WL.skip _ rfl rfl rfl ?_
  first | refine WL.pick rfl rfl rfl rfl ?_
  refine WL.done ?_
  refine EW.on ?_
  refine EW.cond_f rfl ?_
  refine EW.skip ?_
  refine EW.on ?_
  refine EW.region ?_
  first | refine WL.move rfl rfl rfl ?_
  first | refine WL.move rfl rfl rfl ?_
  refine WL.bin rfl rfl rfl rfl (shr8 _ _ _) ?_
  refine WL.conv rfl rfl rfl (conv_b (x := x / 256) (by omega) _) ?_
  first | refine WL.move rfl rfl rfl ?_
  refine WL.conv rfl rfl rfl (conv_lo x hx _) ?_
  refine WL.bslN [(0, byt (UInt8.ofNat (x / 256))), (1, byt (UInt8.ofNat (x % 256)))] rfl rfl rfl (bsl22_2 _ _ _) ?_
  have b1 := below_new w (.cells ([UInt8.ofNat (x / 256), UInt8.ofNat (x % 256)].map byt).toArray 5)
  have hh1 : Has (w.alloc (.cells ([UInt8.ofNat (x / 256), UInt8.ofNat (x % 256)].map byt).toArray 5)) (.slice (some ⟨w.heap.size, 0, none⟩) 2 2) (be16 x) := Has.new (bs := be16 x) (Blk.new _ _ _) 2 (Nat.le_refl _)
  obtain ⟨w1, hw1⟩ : ∃ w1, w.alloc (.cells ([UInt8.ofNat (x / 256), UInt8.ofNat (x % 256)].map byt).toArray 5) = w1 := ⟨_, rfl⟩
  rw [hw1] at b1 hh1 ⊢
  refine WL.bslN [(0, .slice (some ⟨w.heap.size, 0, none⟩) 2 2)] rfl rfl rfl (bsl74_1 _ ⟨_, _, _, rfl⟩ _) ?_
  refine WL.call [.pointer (some ⟨q, 0, none⟩), .slice (some ⟨w1.heap.size, 0, none⟩) 1 1] enter57 rfl rfl rfl (fixedN M hM b q v bs [(.slice (some ⟨w.heap.size, 0, none⟩) 2 2, be16 x)] w1 (hw.below b1) (by have := b1.size; omega) (fun p hp => by rw [List.mem_singleton.1 hp]; exact hh1) (fun p hp => by rw [List.mem_singleton.1 hp]; exact fresh_off hw _ _ _ _ (Nat.le_refl _)) (by show 1 ≤ 1000; decide) 1 rfl (be16 x) (flatB_one _ _) (by rw [be16_len]; exact hl) _ rfl) ?_
  rintro _ w3 ⟨rfl, v', g1, g2, g3⟩
  refine ⟨_, rfl, ?_⟩
  refine WL.done ?_
  exact EW.falls Try.results32 ⟨rfl, v', g1, wr_after (b := b) b1 g2 g3⟩
/-- Limits' bytes. -/
def encL (l : Lm) : List UInt8 := be16 l.pe.toNat ++ (be16 l.pk.toNat ++ (be16 l.sk.toNat ++ (be16 l.ss.toNat ++ (be16 l.ob.toNat ++ be32 l.ct))))
theorem encL_len (l : Lm) : (encL l).length = 14 := rfl
set_option maxRecDepth 100000 in
set_option maxHeartbeats 4000000 in
theorem encodeL_any (l : Lm) (k : l.ok) (w : World) : Calls Try.prog 13 #[l.v] w fun e w' => ∃ v, e = .returned (.tuple #[v, .int .i64 (chkL l)]) ∧ Ob w' w.heap.size v (if GoodL l then encL l else []) ∧ Below w.heap.size w w' := by
  obtain ⟨w1, q1, r1, b1, e1, hq1⟩ := box_any 43 l.cs w
  have l1 := e1.size
  refine calls_of_args [l.v] Try.func13 rfl 44 Try.ntmps13 (by show 1 ≤ 44; decide) ?_
  refine EW.seq ?_
  refine EW.region ?_
  refine WL.box rfl rfl rfl r1 ?_
  first | refine WL.assign rfl rfl rfl ?_
  first | refine WL.assign rfl rfl rfl ?_
  refine WL.done ?_
  refine EW.on ?_
  refine EW.seq ?_
  refine EW.seq ?_
  refine EW.region ?_
  first | refine WL.load rfl rfl rfl (Lm.ld b1 k) ?_
  refine WL.call [l.v] enter14 rfl rfl rfl (checkL_any l k _) ?_
  rintro _ w0 ⟨rfl, e0⟩
  have bx0 := b1.on e0
  have l0 := e0.size
  refine ⟨_, rfl, ?_⟩
  first | refine WL.assign rfl rfl rfl ?_
  refine WL.done ?_
  refine EW.on ?_
  refine EW.seq ?_
  by_cases hG : GoodL l
  · obtain ⟨a1, a2, a3, a4, a5, a6⟩ := hG
    have hG : GoodL l := ⟨a1, a2, a3, a4, a5, a6⟩
    refine EW.region ?_
    first | refine WL.move rfl rfl rfl ?_
    refine WL.bin rfl rfl rfl rfl (int_ne_f (by simp [chkL, hG]) _ _ _) ?_
    refine WL.done ?_
    refine EW.on ?_
    refine EW.cond_f rfl ?_
    refine EW.skip ?_
    refine EW.on ?_
    refine EW.seq ?_
    refine EW.region ?_
    refine WL.call [.int .i64 14] enter24 rfl rfl rfl (newW_any 14 (by decide) _) ?_
    rintro _ w2 ⟨q, rfl, wr2, be2⟩
    have bx2 := bx0.on be2
    have l2 := be2.size
    have s2 := (bt e1 (bt e0 be2))
    refine ⟨_, rfl, ?_⟩
    first | refine WL.move rfl rfl rfl ?_
    first | refine WL.extract rfl rfl rfl (ext_2 _ _ _).1 ?_
    first | refine WL.extract rfl rfl rfl (ext_2 _ _ _).2 ?_
    first | refine WL.assign rfl rfl rfl ?_
    first | refine WL.assign rfl rfl rfl ?_
    refine WL.done ?_
    refine EW.on ?_
    refine EW.seq ?_
    refine EW.region ?_
    first | refine WL.move rfl rfl rfl ?_
    first | refine WL.field rfl rfl rfl (f43_0 q1 _) ?_
    have ld18 := Lm.ld_0 bx2 k
    rw [show l.pe = ((l.pe.toNat : Nat) : Int) by omega] at ld18
    refine WL.load rfl rfl rfl ld18 ?_
    refine WL.call [.pointer (some ⟨q, 0, none⟩), .int .i64 ((l.pe.toNat : Nat) : Int)] enter32 rfl rfl rfl (u16_any 14 (by decide) _ q _ _ l.pe.toNat (by omega) w2 wr2 (by omega) (by simp only [List.length_append, List.length_nil, be16_len, be32_len]; first | omega | decide)) ?_
    rintro _ w3 ⟨rfl, v3, wr3, f3, n3⟩
    have bx3 := bx2.fx f3 (wr2.apart bx2 (by decide) (by decide))
    have l3 := f3.size
    have s3 := s2.trans ((wr2.stays f3 (by omega)).mono (by omega))
    refine ⟨_, rfl, ?_⟩
    refine WL.done ?_
    refine EW.on ?_
    refine EW.seq ?_
    refine EW.region ?_
    first | refine WL.move rfl rfl rfl ?_
    first | refine WL.field rfl rfl rfl (f43_1 q1 _) ?_
    have ld22 := Lm.ld_1 bx3 k
    rw [show l.pk = ((l.pk.toNat : Nat) : Int) by omega] at ld22
    refine WL.load rfl rfl rfl ld22 ?_
    refine WL.call [.pointer (some ⟨q, 0, none⟩), .int .i64 ((l.pk.toNat : Nat) : Int)] enter32 rfl rfl rfl (u16_any 14 (by decide) _ q _ _ l.pk.toNat (by omega) w3 wr3 (by omega) (by simp only [List.length_append, List.length_nil, be16_len, be32_len]; first | omega | decide)) ?_
    rintro _ w4 ⟨rfl, v4, wr4, f4, n4⟩
    have bx4 := bx3.fx f4 (wr3.apart bx3 (by decide) (by decide))
    have l4 := f4.size
    have s4 := s3.trans ((wr3.stays f4 (by omega)).mono (by omega))
    refine ⟨_, rfl, ?_⟩
    refine WL.done ?_
    refine EW.on ?_
    refine EW.seq ?_
    refine EW.region ?_
    first | refine WL.move rfl rfl rfl ?_
    first | refine WL.field rfl rfl rfl (f43_2 q1 _) ?_
    have ld26 := Lm.ld_2 bx4 k
    rw [show l.sk = ((l.sk.toNat : Nat) : Int) by omega] at ld26
    refine WL.load rfl rfl rfl ld26 ?_
    refine WL.call [.pointer (some ⟨q, 0, none⟩), .int .i64 ((l.sk.toNat : Nat) : Int)] enter32 rfl rfl rfl (u16_any 14 (by decide) _ q _ _ l.sk.toNat (by omega) w4 wr4 (by omega) (by simp only [List.length_append, List.length_nil, be16_len, be32_len]; first | omega | decide)) ?_
    rintro _ w5 ⟨rfl, v5, wr5, f5, n5⟩
    have bx5 := bx4.fx f5 (wr4.apart bx4 (by decide) (by decide))
    have l5 := f5.size
    have s5 := s4.trans ((wr4.stays f5 (by omega)).mono (by omega))
    refine ⟨_, rfl, ?_⟩
    refine WL.done ?_
    refine EW.on ?_
    refine EW.seq ?_
    refine EW.region ?_
    first | refine WL.move rfl rfl rfl ?_
    first | refine WL.field rfl rfl rfl (f43_3 q1 _) ?_
    have ld30 := Lm.ld_3 bx5 k
    rw [show l.ss = ((l.ss.toNat : Nat) : Int) by omega] at ld30
    refine WL.load rfl rfl rfl ld30 ?_
    refine WL.call [.pointer (some ⟨q, 0, none⟩), .int .i64 ((l.ss.toNat : Nat) : Int)] enter32 rfl rfl rfl (u16_any 14 (by decide) _ q _ _ l.ss.toNat (by omega) w5 wr5 (by omega) (by simp only [List.length_append, List.length_nil, be16_len, be32_len]; first | omega | decide)) ?_
    rintro _ w6 ⟨rfl, v6, wr6, f6, n6⟩
    have bx6 := bx5.fx f6 (wr5.apart bx5 (by decide) (by decide))
    have l6 := f6.size
    have s6 := s5.trans ((wr5.stays f6 (by omega)).mono (by omega))
    refine ⟨_, rfl, ?_⟩
    refine WL.done ?_
    refine EW.on ?_
    refine EW.seq ?_
    refine EW.region ?_
    first | refine WL.move rfl rfl rfl ?_
    first | refine WL.field rfl rfl rfl (f43_4 q1 _) ?_
    have ld34 := Lm.ld_4 bx6 k
    rw [show l.ob = ((l.ob.toNat : Nat) : Int) by omega] at ld34
    refine WL.load rfl rfl rfl ld34 ?_
    refine WL.call [.pointer (some ⟨q, 0, none⟩), .int .i64 ((l.ob.toNat : Nat) : Int)] enter32 rfl rfl rfl (u16_any 14 (by decide) _ q _ _ l.ob.toNat (by omega) w6 wr6 (by omega) (by simp only [List.length_append, List.length_nil, be16_len, be32_len]; first | omega | decide)) ?_
    rintro _ w7 ⟨rfl, v7, wr7, f7, n7⟩
    have bx7 := bx6.fx f7 (wr6.apart bx6 (by decide) (by decide))
    have l7 := f7.size
    have s7 := s6.trans ((wr6.stays f7 (by omega)).mono (by omega))
    refine ⟨_, rfl, ?_⟩
    refine WL.done ?_
    refine EW.on ?_
    refine EW.seq ?_
    refine EW.region ?_
    first | refine WL.move rfl rfl rfl ?_
    first | refine WL.field rfl rfl rfl (f43_5 q1 _) ?_
    first | refine WL.load rfl rfl rfl (Lm.ld_5 bx7 k) ?_
    refine WL.call [.pointer (some ⟨q, 0, none⟩), u32v l.ct] enter33 rfl rfl rfl (u32_any 14 (by decide) _ q _ _ l.ct w7 wr7 (by omega) (by simp only [List.length_append, List.length_nil, be16_len, be32_len]; first | omega | decide)) ?_
    rintro _ w8 ⟨rfl, v8, wr8, f8, n8⟩
    have bx8 := bx7.fx f8 (wr7.apart bx7 (by decide) (by decide))
    have l8 := f8.size
    have s8 := s7.trans ((wr7.stays f8 (by omega)).mono (by omega))
    refine ⟨_, rfl, ?_⟩
    refine WL.done ?_
    refine EW.on ?_
    refine EW.seq ?_
    refine EW.region ?_
    first | refine WL.move rfl rfl rfl ?_
    refine WL.call [.pointer (some ⟨q, 0, none⟩)] enter31 rfl rfl rfl (out_any 14 _ q _ _ w8 wr8 (by simp only [List.length_append, List.length_nil, be16_len, be32_len]; first | omega | decide)) ?_
    rintro _ w99 ⟨vo, rfl, go, beo⟩
    refine ⟨_, rfl, ?_⟩
    first | refine WL.extract rfl rfl rfl (ext_2 _ _ _).1 ?_
    first | refine WL.extract rfl rfl rfl (ext_2 _ _ _).2 ?_
    first | refine WL.assign rfl rfl rfl ?_
    first | refine WL.assign rfl rfl rfl ?_
    refine WL.done ?_
    refine EW.on ?_
    refine EW.ret ?_
    refine EW.returns2 Try.results13 rfl rfl ⟨vo, by simp [chkL, hG], ?_, bt s8 beo⟩
    rw [if_pos hG]
    refine (show encL l = _ from ?_) ▸ go.lower (by have := s8.size; omega)
    simp [encL]
  · refine EW.region ?_
    first | refine WL.move rfl rfl rfl ?_
    refine WL.bin rfl rfl rfl rfl (int_ne_t (by simp [chkL, hG]) _ _ _) ?_
    refine WL.done ?_
    refine EW.on ?_
    refine EW.cond_t rfl ?_
    refine EW.seq ?_
    refine EW.region ?_
    first | refine WL.move rfl rfl rfl ?_
    first | refine WL.assign rfl rfl rfl ?_
    first | refine WL.assign rfl rfl rfl ?_
    refine WL.done ?_
    refine EW.on ?_
    refine EW.ret ?_
    refine pr_then ?_
    refine EW.returns2 Try.results13 rfl rfl ⟨.slice none 0 0, rfl, by rw [if_neg hG]; exact Ob.nil _ _, bt e1 e0⟩
def lmR (c : List UInt8) : Lm := ⟨((numB (rB c 2 (0, 0)) : Nat) : Int), ((numB (rB c 2 (rS c 2 (0, 0))) : Nat) : Int), ((numB (rB c 2 (rS c 2 (rS c 2 (0, 0)))) : Nat) : Int), ((numB (rB c 2 (rS c 2 (rS c 2 (rS c 2 (0, 0))))) : Nat) : Int), ((numB (rB c 2 (rS c 2 (rS c 2 (rS c 2 (rS c 2 (0, 0)))))) : Nat) : Int), (numB (rB c 4 (rS c 2 (rS c 2 (rS c 2 (rS c 2 (rS c 2 (0, 0))))))))⟩
def lmS (c : List UInt8) : Nat × Int := (rS c 4 (rS c 2 (rS c 2 (rS c 2 (rS c 2 (rS c 2 (0, 0)))))))
def dLE (c : List UInt8) : Int := tlE (eS c (lmS c)).2 (chkL (lmR c))
def dLS (c : List UInt8) : Lm := if dLE c = 0 then lmR c else Lm.z
theorem lmR_ok (c : List UInt8) : (lmR c).ok := ⟨numB_32 _ (rB_len _ _ _)⟩
theorem dLS_ok (c : List UInt8) : (dLS c).ok := by unfold dLS; split; exact lmR_ok c; exact Lm.z_ok
set_option maxRecDepth 100000 in
set_option maxHeartbeats 4000000 in
theorem decodeL_any (vb : Value) (c : List UInt8) (w : World) (hb : Has w vb c) (hl : c.length ≤ 140737488355328) : Calls Try.prog 15 #[vb] w fun e w' => e = .returned (.tuple #[(dLS c).v, .int .i64 (dLE c)]) ∧ Below w.heap.size w w' := by
  obtain ⟨w1, p, r1, b1, e1, hp1⟩ := new_any (t := 43) (cs := Lm.z.cs) zv43 w
  obtain ⟨w2, pe, r2, b2, e2, hp2'⟩ := newE w1
  have l1 := e1.size
  have l2 := e2.size
  have hb1 := b1.lt
  refine calls_of_argsD [vb] Try.func15 rfl 31 Try.ntmps15 (by show 1 ≤ 31; decide) ?_
  refine EW.seq ?_
  refine EW.region ?_
  refine WL.new rfl rfl r1 ?_
  refine WL.new rfl rfl r2 ?_
  refine WL.done ?_
  refine EW.on ?_
  refine EW.seq ?_
  refine EW.region ?_
  first | refine WL.move rfl rfl rfl ?_
  refine WL.call [vb] enter35 rfl rfl rfl (newR_any vb c _ (hb.below (bt e1 e2)) hl) ?_
  rintro _ w3 ⟨u, q, rfl, rd3, hq3, fr3, e3⟩
  have bp3 := (b1.on e2).on e3
  have be3 := b2.on e3
  have l3 := bt (bt e1 e2) e3
  have hp2 := (b1.on e2).lt
  have hpe2 := b2.lt
  have hqp : ¬ q = p := by omega
  have hov : Off u c p := fr3.off hp2
  have hpe : ¬ p = pe := by omega
  refine ⟨_, rfl, ?_⟩
  first | refine WL.assign rfl rfl rfl ?_
  refine WL.done ?_
  refine EW.on ?_
  refine EW.seq ?_
  refine EW.region ?_
  first | refine WL.move rfl rfl rfl ?_
  refine WL.deferA [.pointer (some ⟨q, 0, none⟩), .pointer (some ⟨p, 0, none⟩), .pointer (some ⟨pe, 0, none⟩)] rfl rfl ?_
  refine WL.done ?_
  refine EW.on ?_
  refine EW.seq ?_
  refine EW.region ?_
  first | refine WL.move rfl rfl rfl ?_
  refine WL.call [.pointer (some ⟨q, 0, none⟩)] enter37 rfl rfl rfl (rn2_any q u c (0, 0) _ rd3 hl) ?_
  rintro _ w11 ⟨rfl, rd11, f11⟩
  refine ⟨_, rfl, ?_⟩
  have bp11 := bp3.fx f11 (fun e => hqp e.symm)
  have be11 := be3.fx f11 (fun e => by omega)
  have l11 := bfx l3 (by omega) f11
  refine WL.field rfl rfl rfl (f43_0 p _) ?_
  obtain ⟨w12, s12, bp12', f12⟩ := Lm.st_0 bp11 ((numB (rB c 2 (0, 0)) : Nat) : Int)
  refine WL.store rfl rfl rfl s12 ?_
  have bp12 : Blk w12 p (Lm.cs (⟨((numB (rB c 2 (0, 0)) : Nat) : Int), 0, 0, 0, 0, 0⟩ : Lm)) 43 := bp12'
  have be12 := be11.fx f12 (fun e => hpe e.symm)
  have rd12 := rd11.fx f12 hqp hov
  have l12 := bfx l11 (by omega) f12
  refine WL.done ?_
  refine EW.on ?_
  refine EW.seq ?_
  refine EW.region ?_
  first | refine WL.move rfl rfl rfl ?_
  refine WL.call [.pointer (some ⟨q, 0, none⟩)] enter37 rfl rfl rfl (rn2_any q u c (rS c 2 (0, 0)) _ rd12 hl) ?_
  rintro _ w13 ⟨rfl, rd13, f13⟩
  refine ⟨_, rfl, ?_⟩
  have bp13 := bp12.fx f13 (fun e => hqp e.symm)
  have be13 := be12.fx f13 (fun e => by omega)
  have l13 := bfx l12 (by omega) f13
  refine WL.field rfl rfl rfl (f43_1 p _) ?_
  obtain ⟨w14, s14, bp14', f14⟩ := Lm.st_1 bp13 ((numB (rB c 2 (rS c 2 (0, 0))) : Nat) : Int)
  refine WL.store rfl rfl rfl s14 ?_
  have bp14 : Blk w14 p (Lm.cs (⟨((numB (rB c 2 (0, 0)) : Nat) : Int), ((numB (rB c 2 (rS c 2 (0, 0))) : Nat) : Int), 0, 0, 0, 0⟩ : Lm)) 43 := bp14'
  have be14 := be13.fx f14 (fun e => hpe e.symm)
  have rd14 := rd13.fx f14 hqp hov
  have l14 := bfx l13 (by omega) f14
  refine WL.done ?_
  refine EW.on ?_
  refine EW.seq ?_
  refine EW.region ?_
  first | refine WL.move rfl rfl rfl ?_
  refine WL.call [.pointer (some ⟨q, 0, none⟩)] enter37 rfl rfl rfl (rn2_any q u c (rS c 2 (rS c 2 (0, 0))) _ rd14 hl) ?_
  rintro _ w15 ⟨rfl, rd15, f15⟩
  refine ⟨_, rfl, ?_⟩
  have bp15 := bp14.fx f15 (fun e => hqp e.symm)
  have be15 := be14.fx f15 (fun e => by omega)
  have l15 := bfx l14 (by omega) f15
  refine WL.field rfl rfl rfl (f43_2 p _) ?_
  obtain ⟨w16, s16, bp16', f16⟩ := Lm.st_2 bp15 ((numB (rB c 2 (rS c 2 (rS c 2 (0, 0)))) : Nat) : Int)
  refine WL.store rfl rfl rfl s16 ?_
  have bp16 : Blk w16 p (Lm.cs (⟨((numB (rB c 2 (0, 0)) : Nat) : Int), ((numB (rB c 2 (rS c 2 (0, 0))) : Nat) : Int), ((numB (rB c 2 (rS c 2 (rS c 2 (0, 0)))) : Nat) : Int), 0, 0, 0⟩ : Lm)) 43 := bp16'
  have be16 := be15.fx f16 (fun e => hpe e.symm)
  have rd16 := rd15.fx f16 hqp hov
  have l16 := bfx l15 (by omega) f16
  refine WL.done ?_
  refine EW.on ?_
  refine EW.seq ?_
  refine EW.region ?_
  first | refine WL.move rfl rfl rfl ?_
  refine WL.call [.pointer (some ⟨q, 0, none⟩)] enter37 rfl rfl rfl (rn2_any q u c (rS c 2 (rS c 2 (rS c 2 (0, 0)))) _ rd16 hl) ?_
  rintro _ w17 ⟨rfl, rd17, f17⟩
  refine ⟨_, rfl, ?_⟩
  have bp17 := bp16.fx f17 (fun e => hqp e.symm)
  have be17 := be16.fx f17 (fun e => by omega)
  have l17 := bfx l16 (by omega) f17
  refine WL.field rfl rfl rfl (f43_3 p _) ?_
  obtain ⟨w18, s18, bp18', f18⟩ := Lm.st_3 bp17 ((numB (rB c 2 (rS c 2 (rS c 2 (rS c 2 (0, 0))))) : Nat) : Int)
  refine WL.store rfl rfl rfl s18 ?_
  have bp18 : Blk w18 p (Lm.cs (⟨((numB (rB c 2 (0, 0)) : Nat) : Int), ((numB (rB c 2 (rS c 2 (0, 0))) : Nat) : Int), ((numB (rB c 2 (rS c 2 (rS c 2 (0, 0)))) : Nat) : Int), ((numB (rB c 2 (rS c 2 (rS c 2 (rS c 2 (0, 0))))) : Nat) : Int), 0, 0⟩ : Lm)) 43 := bp18'
  have be18 := be17.fx f18 (fun e => hpe e.symm)
  have rd18 := rd17.fx f18 hqp hov
  have l18 := bfx l17 (by omega) f18
  refine WL.done ?_
  refine EW.on ?_
  refine EW.seq ?_
  refine EW.region ?_
  first | refine WL.move rfl rfl rfl ?_
  refine WL.call [.pointer (some ⟨q, 0, none⟩)] enter37 rfl rfl rfl (rn2_any q u c (rS c 2 (rS c 2 (rS c 2 (rS c 2 (0, 0))))) _ rd18 hl) ?_
  rintro _ w19 ⟨rfl, rd19, f19⟩
  refine ⟨_, rfl, ?_⟩
  have bp19 := bp18.fx f19 (fun e => hqp e.symm)
  have be19 := be18.fx f19 (fun e => by omega)
  have l19 := bfx l18 (by omega) f19
  refine WL.field rfl rfl rfl (f43_4 p _) ?_
  obtain ⟨w20, s20, bp20', f20⟩ := Lm.st_4 bp19 ((numB (rB c 2 (rS c 2 (rS c 2 (rS c 2 (rS c 2 (0, 0)))))) : Nat) : Int)
  refine WL.store rfl rfl rfl s20 ?_
  have bp20 : Blk w20 p (Lm.cs (⟨((numB (rB c 2 (0, 0)) : Nat) : Int), ((numB (rB c 2 (rS c 2 (0, 0))) : Nat) : Int), ((numB (rB c 2 (rS c 2 (rS c 2 (0, 0)))) : Nat) : Int), ((numB (rB c 2 (rS c 2 (rS c 2 (rS c 2 (0, 0))))) : Nat) : Int), ((numB (rB c 2 (rS c 2 (rS c 2 (rS c 2 (rS c 2 (0, 0)))))) : Nat) : Int), 0⟩ : Lm)) 43 := bp20'
  have be20 := be19.fx f20 (fun e => hpe e.symm)
  have rd20 := rd19.fx f20 hqp hov
  have l20 := bfx l19 (by omega) f20
  refine WL.done ?_
  refine EW.on ?_
  refine EW.seq ?_
  refine EW.region ?_
  first | refine WL.move rfl rfl rfl ?_
  refine WL.call [.pointer (some ⟨q, 0, none⟩)] enter38 rfl rfl rfl (rn4_any q u c (rS c 2 (rS c 2 (rS c 2 (rS c 2 (rS c 2 (0, 0)))))) _ rd20 hl) ?_
  rintro _ w21 ⟨rfl, rd21, f21⟩
  refine ⟨_, rfl, ?_⟩
  have bp21 := bp20.fx f21 (fun e => hqp e.symm)
  have be21 := be20.fx f21 (fun e => by omega)
  have l21 := bfx l20 (by omega) f21
  refine WL.field rfl rfl rfl (f43_5 p _) ?_
  obtain ⟨w22, s22, bp22', f22⟩ := Lm.st_5 bp21 (numB (rB c 4 (rS c 2 (rS c 2 (rS c 2 (rS c 2 (rS c 2 (0, 0))))))))
  refine WL.store rfl rfl rfl s22 ?_
  have bp22 : Blk w22 p (Lm.cs (⟨((numB (rB c 2 (0, 0)) : Nat) : Int), ((numB (rB c 2 (rS c 2 (0, 0))) : Nat) : Int), ((numB (rB c 2 (rS c 2 (rS c 2 (0, 0)))) : Nat) : Int), ((numB (rB c 2 (rS c 2 (rS c 2 (rS c 2 (0, 0))))) : Nat) : Int), ((numB (rB c 2 (rS c 2 (rS c 2 (rS c 2 (rS c 2 (0, 0)))))) : Nat) : Int), (numB (rB c 4 (rS c 2 (rS c 2 (rS c 2 (rS c 2 (rS c 2 (0, 0))))))))⟩ : Lm)) 43 := bp22'
  have be22 := be21.fx f22 (fun e => hpe e.symm)
  have rd22 := rd21.fx f22 hqp hov
  have l22 := bfx l21 (by omega) f22
  refine WL.done ?_
  refine EW.on ?_
  refine EW.seq ?_
  refine EW.region ?_
  first | refine WL.move rfl rfl rfl ?_
  refine WL.call [.pointer (some ⟨q, 0, none⟩)] enter39 rfl rfl rfl (end_any q u c (lmS c) _ rd22 hl) ?_
  rintro _ w23 ⟨rfl, rd23, f23⟩
  refine ⟨_, rfl, ?_⟩
  have bp23 := bp22.fx f23 (fun e => hqp e.symm)
  have be23 := be22.fx f23 (fun e => by omega)
  have l23 := bfx l22 (by omega) f23
  refine WL.done ?_
  refine EW.on ?_
  refine EW.seq ?_
  have bp24 : Blk w23 p (lmR c).cs 43 := bp23
  refine EW.ordB [(0, 0, 1), (1, 0, 1), (2, 1, 1), (3, 1, 0), (4, 1, 0)] (by kernel_rfl) rfl (by kernel_rfl) ?_
  simp only [opsZ, List.getD_cons_zero, List.getD_cons_succ]
  refine ZE.load rfl rfl rfl rfl sz1 (fun W hW => Lm.ld (bp24.on (sb_of hW)) (lmR_ok c)) ?_
  refine ZE.load rfl rfl rfl rfl sz1 (fun W hW => Lm.ld (bp24.on (sb_of hW)) (lmR_ok c)) ?_
  refine ZE.callB [(lmR c).v] enter14 rfl rfl rfl (fun W h => .inr h) (fun W hW => checkL_any _ (lmR_ok c) W) ?_
  refine ZE.store (fun W => Blk W p (lmR c).cs 43 ∧ Blk W pe [.int .i64 0] 35 ∧ Rd W q u c (eS c (lmS c)).1 (eS c (lmS c)).2 ∧ Below w.heap.size w W) rfl rfl rfl (fun _ _ => .inl rfl) (fun W hW => ?_) ?_
  · obtain ⟨w', g1, g2, g3⟩ := Lm.st (s := lmR c) (bp24.on hW) (lmR_ok c) (lmR_ok c)
    exact ⟨w', g1, g2, (be23.on hW).fx g3 (fun e => hpe e.symm), (rd23.below hW).fx g3 hqp hov, bfx (bt l23 hW) (by omega) g3⟩
  refine ZE.store (fun W => Blk W p (lmR c).cs 43 ∧ Blk W pe [.int .i64 (chkL (lmR c))] 35 ∧ Rd W q u c (eS c (lmS c)).1 (eS c (lmS c)).2 ∧ Below w.heap.size w W) rfl rfl rfl (fun _ _ => .inl rfl) (fun W hW => ?_) ?_
  · obtain ⟨g1, g2, g3, g4⟩ := hW
    obtain ⟨w', h1, h2, h3⟩ := stE0 g2 (chkL (lmR c))
    exact ⟨w', h1, g1.fx h3 hpe, h2, g3.fx h3 (by omega) (fr3.off hpe2), bfx g4 (by omega) h3⟩
  rintro w99 ⟨bp99, be99, rd99, l99⟩
  refine EW.on ?_
  refine EW.ret ?_
  refine EW.leavesA (S := fun w' => Blk w' p (dLS c).cs 43 ∧ Blk w' pe [.int .i64 (dLE c)] 35 ∧ Below w.heap.size w w') enter36 ((tellL .returning q p pe u c (eS c (lmS c)).1 (eS c (lmS c)).2 (lmR c) (lmR_ok c) (chkL (lmR c)) _ rd99 bp99 be99 hpe).mono ?_) ?_
  · rintro x u' w' ⟨rfl, rfl, g1, g2, g3⟩
    exact ⟨rfl, rfl, g1, g2, bfx2 l99 (by omega) (by omega) g3⟩
  · rintro w' ⟨g1, g2, g3⟩ a ha
    exact ⟨_, res_ci Try.results15 a.tmps w' p pe 43 35 _ _ _ (ha.kn 2 _ rfl) g1 Try.underlying43 rfl i43 (ha.kn 3 _ rfl) g2, rfl, g3⟩
def lmP (c : List UInt8) : Lm := ⟨((numB (cutB c 0 2) : Nat) : Int), ((numB (cutB c 2 2) : Nat) : Int), ((numB (cutB c 4 2) : Nat) : Int), ((numB (cutB c 6 2) : Nat) : Int), ((numB (cutB c 8 2) : Nat) : Int), numB (cutB c 10 4)⟩
theorem dL_short {c : List UInt8} (h : c.length < 14) : dLE c = 10 := by
  have h2 : (lmS c).2 = 10 := rSs_no (ms := [2, 2, 2, 2, 2, 4]) (a := 0) (by omega) (by simp; omega)
  exact tl10 (eS_bad h2)
theorem lm_is {c : List UInt8} (h : 14 ≤ c.length) : lmS c = (14, 0) ∧ lmR c = lmP c := by
  have r0 : rS c 2 (0, 0) = (2, 0) := rS_ok (a := 0) (by omega)
  have r1 : rS c 2 (2, 0) = (4, 0) := rS_ok (by omega)
  have r2 : rS c 2 (4, 0) = (6, 0) := rS_ok (by omega)
  have r3 : rS c 2 (6, 0) = (8, 0) := rS_ok (by omega)
  have r4 : rS c 2 (8, 0) = (10, 0) := rS_ok (by omega)
  have r5 : rS c 4 (10, 0) = (14, 0) := rS_ok (by omega)
  unfold lmS lmR lmP
  rw [r0, r1, r2, r3, r4, r5, rB_ok (by omega), rB_ok (by omega), rB_ok (by omega), rB_ok (by omega), rB_ok (by omega), rB_ok (by omega)]
  exact ⟨rfl, rfl⟩
theorem dL_long {c : List UInt8} (h : 14 < c.length) : dLE c = 11 := by
  unfold dLE
  rw [(lm_is (by omega)).1]
  unfold eS
  rw [if_pos ⟨rfl, h⟩]
  rfl
theorem dL_is {c : List UInt8} (h : c.length = 14) : dLE c = chkL (lmP c) := by
  unfold dLE
  rw [(lm_is (by omega)).1, (lm_is (by omega)).2]
  unfold eS
  rw [if_neg (fun e => by have : 14 < c.length := e.2; omega)]
  rfl
end Go.Proofs.Ytacimelcmkhhlaa
