import Derived.Test.YtggehhlobjjmpaaRg
set_option linter.unusedVariables false
set_option linter.unusedSimpArgs false
namespace Go.Proofs.Ytggehhlobjjmpaa
open Go.RowKit

theorem Ds.fx29 {w0 : World} {dk p r q g : Nat} {v : Value} {most : Nat} {E : List Me} {c : Nat} {L : List Sk} {W W' : World} {cs : List Value} (h : Ds w0 dk p r q v most E c L W) (hB : Blk W g cs 29) (f : Fx (fun k => k = g) W W') (h0 : w0.heap.size ≤ g) : Ds w0 dk p r q v most E c L W' := h.fx f ⟨h.bl.neT hB (by decide), h.tb.bl.neT hB (by decide), h.tb.mp.neB hB, h.rt.bl.neT hB (by decide)⟩ (fun b hb => h.rt.so.ow.neB hB (by decide) b hb) h0
theorem Ks7 {Ks : List (List UInt8)} {A B : List UInt8} : (Ks ++ [A, B])[Ks.length]? = some A := by simp
theorem Ks8 {Ks : List (List UInt8)} {A B : List UInt8} : (Ks ++ [A, B])[Ks.length + 1]? = some B := by simp
theorem adN0 {E : List Me} {most t f m : Nat} (h : adN E most t f m = 0) : E.length + m ≤ most := by
  unfold adN at h
  split at h
  · cases h
  · split at h
    · cases h
    · split at h
      · cases h
      · omega
set_option maxRecDepth 100000 in
set_option maxHeartbeats 4000000 in
theorem step_copy {w0 w : World} {dk p r q : Nat} {v : Value} {most : Nat} {E : List Me} {c : Nat} {L : List Sk} (D : Ds w0 dk p r q v most E c L w) (t n : Nat) (ht : t < 4294967296) (hn : n < 4294967296) (kw : Value) : Calls Try.prog 17 #[.pointer (some ⟨dk, 0, none⟩), opV 5 t n kw] w fun e w' => e = .returned (.bool true) ∧ ∃ p' r' v' E' c' L', Ds w0 dk p' r' q v' most E' c' L' w' := by
  obtain ⟨w1, q3, r3, b3, l1, hq3⟩ := box55 5 t n kw w
  have D1 := D.on l1
  have hNE := D.ne
  obtain ⟨hLE, hL256⟩ := D.Ll
  have hdk := D.bl.lt
  have hpw := D.tb.bl.lt
  have hrw := D.tb.mp.ltb
  have hqw := D.rt.bl.lt
  have n51 : ¬ (5 : Int) = 1 := by decide
  have n52 : ¬ (5 : Int) = 2 := by decide
  have n53 : ¬ (5 : Int) = 3 := by decide
  have n54 : ¬ (5 : Int) = 4 := by decide
  refine calls_of_args [.pointer (some ⟨dk, 0, none⟩), opV 5 t n kw] Try.func17 rfl 226 Try.ntmps17 (by show 2 ≤ 226; decide) ?_
  refine EW.seq ?_
  refine EW.region ?_
  refine WL.box rfl rfl rfl r3 ?_
  first | refine WL.assign rfl rfl rfl ?_
  refine WL.done ?_
  refine EW.on ?_
  refine EW.seq ?_
  refine EW.seq ?_
  refine EW.region ?_
  refine WL.field rfl rfl rfl (f55_0 q3 _) ?_
  refine WL.load rfl rfl rfl (ldI b3 rfl) ?_
  refine WL.done ?_
  refine EW.on ?_
  refine EW.block ?_
  refine EW.seq ?_
  refine EW.region ?_
  first | refine WL.bin rfl rfl rfl rfl (int_eq_t rfl _ _ _) ?_ | refine WL.bin rfl rfl rfl rfl (int_eq_t ‹_› _ _ _) ?_ | refine WL.bin rfl rfl rfl rfl (int_eq_f ‹_› _ _ _) ?_ | refine WL.bin rfl rfl rfl rfl (int_eq_d _ _ _ _ _) ?_
  first | refine WL.assign rfl rfl rfl ?_
  refine WL.done ?_
  refine EW.on ?_
  refine EW.cond_f rfl ?_
  refine EW.seq ?_
  refine EW.region ?_
  first | refine WL.bin rfl rfl rfl rfl (int_eq_t rfl _ _ _) ?_ | refine WL.bin rfl rfl rfl rfl (int_eq_t ‹_› _ _ _) ?_ | refine WL.bin rfl rfl rfl rfl (int_eq_f ‹_› _ _ _) ?_ | refine WL.bin rfl rfl rfl rfl (int_eq_d _ _ _ _ _) ?_
  first | refine WL.assign rfl rfl rfl ?_
  refine WL.done ?_
  refine EW.on ?_
  refine EW.cond_f rfl ?_
  refine EW.seq ?_
  refine EW.region ?_
  first | refine WL.bin rfl rfl rfl rfl (int_eq_t rfl _ _ _) ?_ | refine WL.bin rfl rfl rfl rfl (int_eq_t ‹_› _ _ _) ?_ | refine WL.bin rfl rfl rfl rfl (int_eq_f ‹_› _ _ _) ?_ | refine WL.bin rfl rfl rfl rfl (int_eq_d _ _ _ _ _) ?_
  first | refine WL.assign rfl rfl rfl ?_
  refine WL.done ?_
  refine EW.on ?_
  refine EW.cond_f rfl ?_
  refine EW.seq ?_
  refine EW.region ?_
  first | refine WL.bin rfl rfl rfl rfl (int_eq_t rfl _ _ _) ?_ | refine WL.bin rfl rfl rfl rfl (int_eq_t ‹_› _ _ _) ?_ | refine WL.bin rfl rfl rfl rfl (int_eq_f ‹_› _ _ _) ?_ | refine WL.bin rfl rfl rfl rfl (int_eq_d _ _ _ _ _) ?_
  first | refine WL.assign rfl rfl rfl ?_
  refine WL.done ?_
  refine EW.on ?_
  refine EW.cond_f rfl ?_
  refine EW.seq ?_
  refine EW.region ?_
  first | refine WL.bin rfl rfl rfl rfl (int_eq_t rfl _ _ _) ?_ | refine WL.bin rfl rfl rfl rfl (int_eq_t ‹_› _ _ _) ?_ | refine WL.bin rfl rfl rfl rfl (int_eq_f ‹_› _ _ _) ?_ | refine WL.bin rfl rfl rfl rfl (int_eq_d _ _ _ _ _) ?_
  first | refine WL.assign rfl rfl rfl ?_
  refine WL.done ?_
  refine EW.on ?_
  refine EW.cond_t rfl ?_
  refine EW.seq ?_
  refine EW.region ?_
  first | refine WL.move rfl rfl rfl ?_
  first | refine WL.nilc rfl rfl rfl ?_
  refine WL.field rfl rfl rfl (g52_0 dk _) ?_
  refine WL.load rfl rfl rfl (ldP24 D1.bl rfl) ?_
  refine WL.call [.pointer (some ⟨p, 0, none⟩)] enter12 rfl rfl rfl (copy_any D1.tb) ?_
  rintro x2 w2 ⟨p', r', rfl, tc2, hp', hr', l2⟩
  refine ⟨_, rfl, ?_⟩
  first | refine WL.assign rfl rfl rfl ?_
  refine WL.done ?_
  refine EW.on ?_
  refine EW.seq ?_
  refine EW.seq ?_
  refine EW.region ?_
  first | refine WL.move rfl rfl rfl ?_
  refine WL.bin rfl rfl rfl rfl (neP p' _ _ _) ?_
  refine WL.done ?_
  refine EW.on ?_
  refine EW.cond_f rfl ?_
  refine EW.skip ?_
  refine EW.on ?_
  refine EW.seq ?_
  have D2 := D1.on l2
  have b32 := b3.on l2
  have s12 := l2.size
  have s01 := l1.size
  refine EW.ordB [(0, 0, 0), (1, 0, 0), (2, 0, 0), (3, 0, 1), (4, 0, 0), (5, 0, 1), (6, 0, 0), (7, 0, 1), (8, 1, 0)] (by kernel_rfl) rfl (by kernel_rfl) ?_
  simp only [opsZ, List.getD_cons_zero, List.getD_cons_succ]
  first | refine ZE.move rfl rfl rfl rfl sz0 ?_
  first | refine ZE.nilc rfl rfl rfl rfl sz0 ?_
  refine ZE.field rfl rfl rfl rfl sz0 (fun W => g52_0 dk W) ?_
  refine ZE.load rfl rfl rfl rfl sz1 (fun W hW => ldP24 (D2.bl.on (sb_of hW)) rfl) ?_
  refine ZE.field rfl rfl rfl rfl sz0 (fun W => f55_1 q3 W) ?_
  first | refine ZE.load rfl rfl rfl rfl sz1 (fun W hW => (b32.on (sb_of hW)).ldU (a := [.int .i64 5]) (b := [u32v n, kw]) (n := t) (o := 1) rfl rfl) ?_ | refine ZE.load rfl rfl rfl rfl sz1 (fun W hW => (b32.on (sb_of hW)).ldU (a := [.int .i64 5, u32v t]) (b := [kw]) (n := n) (o := 2) rfl rfl) ?_
  refine ZE.field rfl rfl rfl rfl sz0 (fun W => f55_2 q3 W) ?_
  first | refine ZE.load rfl rfl rfl rfl sz1 (fun W hW => (b32.on (sb_of hW)).ldU (a := [.int .i64 5]) (b := [u32v n, kw]) (n := t) (o := 1) rfl rfl) ?_ | refine ZE.load rfl rfl rfl rfl sz1 (fun W hW => (b32.on (sb_of hW)).ldU (a := [.int .i64 5, u32v t]) (b := [kw]) (n := n) (o := 2) rfl rfl) ?_
  refine ZE.callR [.pointer (some ⟨p, 0, none⟩), u32v t, u32v n] (fun _ W => Tb W p r most (delE E t n) c ∧ Fx (fun k => k = r) w2 W) enter10 rfl rfl rfl (fun _ _ _ => .inl rfl) (fun W hW => (ttake_any (D2.tb.on hW) t n).mono fun e w' ⟨h1, h2, h3⟩ => ⟨_, h1, h2, (Fx.of_below hW).and h3⟩) ?_
  rintro u _
  rintro w4 ⟨tb4, f4⟩
  refine EW.on ?_
  refine EW.seq ?_
  have bl4 := D2.bl.fx f4 hNE.1
  have b34 := b32.fx f4 (by show ¬ q3 = r; omega)
  have r4 : r < w4.heap.size := tb4.mp.ltb
  refine EW.ordB [(0, 0, 0), (1, 0, 0), (2, 0, 0), (3, 0, 1), (4, 0, 0), (5, 0, 1), (6, 0, 0), (7, 0, 1), (8, 0, 0), (9, 1, 1), (10, 1, 0)] (by kernel_rfl) rfl (by kernel_rfl) ?_
  simp only [opsZ, List.getD_cons_zero, List.getD_cons_succ]
  first | refine ZE.move rfl rfl rfl rfl sz0 ?_
  first | refine ZE.nilc rfl rfl rfl rfl sz0 ?_
  refine ZE.field rfl rfl rfl rfl sz0 (fun W => g52_0 dk W) ?_
  refine ZE.load rfl rfl rfl rfl sz1 (fun W hW => ldP24 (bl4.on (sb_of hW)) rfl) ?_
  refine ZE.field rfl rfl rfl rfl sz0 (fun W => f55_1 q3 W) ?_
  first | refine ZE.load rfl rfl rfl rfl sz1 (fun W hW => (b34.on (sb_of hW)).ldU (a := [.int .i64 5]) (b := [u32v n, kw]) (n := t) (o := 1) rfl rfl) ?_ | refine ZE.load rfl rfl rfl rfl sz1 (fun W hW => (b34.on (sb_of hW)).ldU (a := [.int .i64 5, u32v t]) (b := [kw]) (n := n) (o := 2) rfl rfl) ?_
  refine ZE.field rfl rfl rfl rfl sz0 (fun W => f55_2 q3 W) ?_
  first | refine ZE.load rfl rfl rfl rfl sz1 (fun W hW => (b34.on (sb_of hW)).ldU (a := [.int .i64 5]) (b := [u32v n, kw]) (n := t) (o := 1) rfl rfl) ?_ | refine ZE.load rfl rfl rfl rfl sz1 (fun W hW => (b34.on (sb_of hW)).ldU (a := [.int .i64 5, u32v t]) (b := [kw]) (n := n) (o := 2) rfl rfl) ?_
  refine ZE.buildN [(0, .int .u8 1)] rfl rfl rfl rfl sz0 (fun W => b29_1 W) ?_
  refine ZE.bsl [(0, kv (1 :: List.replicate 31 0))] (fun u W => (∃ g, (∀ b, u.ownBlock = some b → b = g) ∧ w4.heap.size ≤ g) ∧ Ko W u [1 :: List.replicate 31 0] ∧ Below w4.heap.size w4 W) rfl rfl rfl (fun _ _ h => .inr h.2.2) (fun W hW => ?_) ?_
  · obtain ⟨vg, wg, rg, kog, lg, cg, hvg⟩ := bslK1 (1 :: List.replicate 31 0) rfl W
    exact ⟨vg, wg, rg, ⟨W.heap.size, fun b hb => (by rw [hvg] at hb; simp only [Value.ownBlock, Option.some.injEq] at hb; exact hb.symm), hW.size⟩, kog, bt hW lg⟩
  rintro vg ⟨_, ⟨gg, hvg, hgg⟩, _, _⟩
  refine ZE.callR [.pointer (some ⟨p, 0, none⟩), u32v t, u32v n, vg] (fun _ W => Fx (fun k => k = r) w4 W) enter7 rfl rfl rfl (fun _ _ _ => .inl rfl) (fun W hW => (add_any (tb4.on hW.2.2) (Nat.le_trans (List.length_filter_le _ _) D.le) D.mo t n ht hn hW.2.1.kl (by decide) (fun b hb => .inl (by have := hvg b hb; omega))).mono fun e w' ⟨h1, _, _, h3⟩ => ⟨_, h1, (Fx.of_below hW.2.2).and h3⟩) ?_
  rintro u5 _
  rintro w5 f45
  refine EW.on ?_
  have f5 : Fx (fun k => k = r) w2 w5 := f4.and f45
  obtain ⟨w6, rs, b6, f6⟩ := stP24 (bl4.fx f45 hNE.1) p'
  have hdp : ¬ p' = dk := by omega
  have hdr : ¬ r' = dk := by omega
  have hpr : ¬ p' = r := by omega
  have hrr : ¬ r' = r := by omega
  have D6 : Ds w0 dk p' r' q v most E c L w6 := ⟨b6, (tc2.fx f5 hpr hrr).fx f6 hdp hdr, (D2.rt.fx f5 (fun e => hNE.2.2.2.2.1 e.symm) (fun b hb => (hNE.2.2.2.2.2.2 b hb).2.2.1)).fx f6 (fun e => hNE.2.1 e.symm) (fun b hb => (hNE.2.2.2.2.2.2 b hb).1), D.pm, D.lt, D.le, D.mo, ⟨D.lo.1, by have := D.be.size; omega, by have := D.be.size; omega, D.lo.2.2.2⟩, D.lv, bfx (bfx D2.be f5 D.lo.2.2.1) f6 D.lo.1⟩
  refine EW.region ?_
  first | refine WL.move rfl rfl rfl ?_
  first | refine WL.move rfl rfl rfl ?_
  first | refine WL.nilc rfl rfl rfl ?_
  refine WL.field rfl rfl rfl (g52_0 dk _) ?_
  refine WL.store rfl rfl rfl rs ?_
  refine WL.done ?_
  refine pn_block ?_
  refine EW.on ?_
  refine EW.seq ?_
  refine EW.region ?_
  first | refine WL.assign rfl rfl rfl ?_
  refine WL.done ?_
  refine EW.on ?_
  refine EW.ret ?_
  exact EW.returns Try.results17 rfl ⟨rfl, p', r', v, E, c, L, D6⟩
def saE (vk : Value) (x : Nat) : List (Nat × Value) := [(6, vk), (8, .int .i64 (x : Int))]
def SaR (w0 : World) (dk p r q : Nat) (v : Value) (most : Nat) (E : List Me) (c : Nat) (L : List Sk) (vl : Value) (m : Nat) (x : Nat) (W : World) : Prop := x ≤ m ∧ Ds w0 dk p r q v most E c L W ∧ ∃ l, l.length = m + 2 ∧ Ko W vl l
theorem Fx.of_below' {B : Nat} {a b : World} (h : Below B a b) : Fx (fun k => B ≤ k) a b := ⟨h.os, h.tape, h.output, h.size, fun i hi hs => h.block i (by omega)⟩
set_option maxRecDepth 100000 in
set_option maxHeartbeats 8000000 in
theorem step_add {w0 w : World} {dk p r q : Nat} {v : Value} {most : Nat} {E : List Me} {c : Nat} {L : List Sk} (D : Ds w0 dk p r q v most E c L w) (t n : Nat) (ht : t < 4294967296) (hn : n < 4294967296) {kw : Value} {Ks : List (List UInt8)} (hk : Kl w0 kw Ks) (hkl : Ks.length * 32 ≤ 140737488351232) (hkb : ∀ b, kw.ownBlock = some b → b < w0.heap.size ∨ Ks = []) : Calls Try.prog 17 #[.pointer (some ⟨dk, 0, none⟩), opV 1 t n kw] w fun e w' => e = .returned (.bool true) ∧ ∃ p' r' v' E' c' L', Ds w0 dk p' r' q v' most E' c' L' w' := by
  obtain ⟨w1, q3, r3, b3, l1, hq3⟩ := box55 1 t n kw w
  have D1 := D.on l1
  have hNE := D.ne
  obtain ⟨hLE, hL256⟩ := D.Ll
  have hdk := D.bl.lt
  have hpw := D.tb.bl.lt
  have hrw := D.tb.mp.ltb
  have hqw := D.rt.bl.lt
  refine calls_of_args [.pointer (some ⟨dk, 0, none⟩), opV 1 t n kw] Try.func17 rfl 226 Try.ntmps17 (by show 2 ≤ 226; decide) ?_
  refine EW.seq ?_
  refine EW.region ?_
  refine WL.box rfl rfl rfl r3 ?_
  first | refine WL.assign rfl rfl rfl ?_
  refine WL.done ?_
  refine EW.on ?_
  refine EW.seq ?_
  refine EW.seq ?_
  refine EW.region ?_
  refine WL.field rfl rfl rfl (f55_0 q3 _) ?_
  refine WL.load rfl rfl rfl (ldI b3 rfl) ?_
  refine WL.done ?_
  refine EW.on ?_
  refine EW.block ?_
  refine EW.seq ?_
  refine EW.region ?_
  first | refine WL.bin rfl rfl rfl rfl (int_eq_t rfl _ _ _) ?_ | refine WL.bin rfl rfl rfl rfl (int_eq_t ‹_› _ _ _) ?_ | refine WL.bin rfl rfl rfl rfl (int_eq_f ‹_› _ _ _) ?_ | refine WL.bin rfl rfl rfl rfl (int_eq_d _ _ _ _ _) ?_
  first | refine WL.assign rfl rfl rfl ?_
  refine WL.done ?_
  refine EW.on ?_
  refine EW.cond_t rfl ?_
  refine EW.seq ?_
  have hkw1 : Kl w1 kw Ks := ((hk.fx (S := fun k => w0.heap.size ≤ k) (Fx.of_below' D.be) (fun b hb => (hkb b hb).imp (fun e => by omega) id)).on l1)
  have hkws : ∃ ao n c, kw = .slice ao n c := by obtain ⟨ao, c9, h9⟩ := hk.sl; exact ⟨ao, _, c9, h9⟩
  obtain ⟨va, wa, ra, koa, la, ca, hva⟩ := bslK0 w1
  obtain ⟨vb, wb, rb, kob, fb, nb⟩ := koa.app (hkw1.on la) (by simp only [List.length_nil]; omega) 22
  obtain ⟨vc, wc, rc, koc, lc, cc, hvc⟩ := bslK2 (7 :: List.replicate 31 0) (8 :: List.replicate 31 0) rfl rfl wb
  rw [List.nil_append] at kob
  obtain ⟨vl, w4, rd, kod, fd, nd⟩ := (kob.on lc).app koc.kl (by simp only [List.length_cons, List.length_nil]; omega) 22
  have hvao : ∀ b, va.ownBlock = some b → b = w1.heap.size := fun b hb => by
    rw [hva] at hb
    simp only [Value.ownBlock, Option.some.injEq] at hb
    omega
  have sa := la.size
  have sb := fb.size
  have sc := lc.size
  have hvbo : ∀ b, vb.ownBlock = some b → w1.heap.size ≤ b := fun b hb => by
    rcases nb b hb with e | e
    · have := hvao b e; omega
    · omega
  have hvlo : ∀ b, vl.ownBlock = some b → w1.heap.size ≤ b := fun b hb => by
    rcases nd b hb with e | e
    · exact hvbo b e
    · omega
  have l1b : Below w1.heap.size w1 wb := la.trans (fb.below (fun k hk e => by have := hvao k e; omega) la.size)
  have l1c : Below w1.heap.size w1 wc := bt l1b lc
  have ll : Below w1.heap.size w1 w4 := l1c.trans (fd.below (fun k hk e => by have := hvbo k e; omega) l1c.size)
  have D4 := D1.on ll
  have b34 := b3.on ll
  have hk4 := hkw1.on ll
  obtain ⟨g, gc, hvl⟩ : ∃ g gc, vl = .slice (some ⟨g, 0, none⟩) (Ks.length + 2) gc := by
    rcases kod.ow.addr with ⟨_, e⟩ | ⟨g, gc, e⟩
    · have := congrArg List.length e
      rw [kcs_len] at this
      simp at this
    · exact ⟨g, gc, by rw [e, kcs_len, List.length_append]; rfl⟩
  have hgw : w1.heap.size ≤ g := hvlo g (by rw [hvl]; rfl)
  have hgc : Ks.length + 2 ≤ gc := by
    rcases kod.kl.li.sl with ⟨e, _⟩ | ⟨ad, cap, e, h9⟩
    · rw [hvl] at e; cases e
    · rw [hvl] at e
      rw [kcs_len, List.length_append] at h9
      injection e with e1 e2 e3
      rw [e3]
      exact h9
  obtain ⟨vk, hvke⟩ : ∃ vk, vk = Value.slice (some ⟨g, 0, none⟩) Ks.length gc := ⟨_, rfl⟩
  have hcut : (Instr.sliceAt 22 vl none (some (.int .i64 (Ks.length : Int))) none).run Try.prog w4 = .ok vk w4 := by rw [hvl, hvke]; exact cutK _ _ _ _ (by omega) hgc _
  have kvk : Kl w4 vk Ks := ⟨by
    have h9 := kod.kl.li
    rw [hvl, show Ks.length + 2 = (kcs (Ks ++ [7 :: List.replicate 31 0, 8 :: List.replicate 31 0])).length by rw [kcs_len, List.length_append]; rfl] at h9
    have h8 := h9.cut Ks.length (by rw [kcs_len, List.length_append]; omega)
    rw [← kcs_take, List.take_left' rfl, ← hvke] at h8
    exact h8⟩
  have hvk : ∀ b, vk.ownBlock = some b → b = g := fun b hb => by
    rw [hvke] at hb
    simp only [Value.ownBlock, Option.some.injEq] at hb
    exact hb.symm
  have hvlg : ∀ b, vl.ownBlock = some b → b = g := fun b hb => by
    rw [hvl] at hb
    simp only [Value.ownBlock, Option.some.injEq] at hb
    exact hb.symm
  have s01 := l1.size
  have hgr : ¬ g = r := by omega
  have hgq : ¬ g = q := by omega
  obtain ⟨N, hN⟩ : ∃ N, N = adN E most t n Ks.length := ⟨_, rfl⟩
  have hNL : adNL L most t n Ks.length = N := by rw [hN]; exact adN_eq D.pm D.tb.mp.nd D.le hn
  refine EW.region ?_
  refine WL.bslN [] rfl rfl rfl ra ?_
  refine WL.field rfl rfl rfl (f55_3 q3 _) ?_
  refine WL.load rfl rfl rfl (ldS22 (b3.on la) rfl hkws) ?_
  refine WL.app rfl rfl rfl rfl rb ?_
  refine WL.buildN [(0, .int .u8 7)] rfl rfl rfl (b29_7 _) ?_
  refine WL.buildN [(0, .int .u8 8)] rfl rfl rfl (b29_8 _) ?_
  refine WL.bslN [(0, kv (7 :: List.replicate 31 0)), (1, kv (8 :: List.replicate 31 0))] rfl rfl rfl rc ?_
  refine WL.app rfl rfl rfl rfl rd ?_
  first | refine WL.assign rfl rfl rfl ?_
  refine WL.done ?_
  refine EW.on ?_
  refine EW.seq ?_
  refine EW.region ?_
  first | refine WL.move rfl rfl rfl ?_
  refine WL.field rfl rfl rfl (f55_3 q3 _) ?_
  refine WL.load rfl rfl rfl (ldS22 b34 rfl hkws) ?_
  refine WL.len rfl rfl rfl (hk.len _ _) ?_
  refine WL.sliceH rfl rfl rfl rfl hcut ?_
  first | refine WL.assign rfl rfl rfl ?_
  refine WL.done ?_
  refine EW.on ?_
  refine EW.seq ?_
  refine EW.ordB [(0, 0, 0), (1, 0, 0), (2, 0, 0), (3, 0, 1), (4, 0, 0), (5, 0, 1), (6, 0, 0), (7, 0, 1), (8, 0, 0), (9, 1, 0), (10, 0, 0)] (by kernel_rfl) rfl (by kernel_rfl) ?_
  simp only [opsZ, List.getD_cons_zero, List.getD_cons_succ]
  first | refine ZE.move rfl rfl rfl rfl sz0 ?_
  first | refine ZE.nilc rfl rfl rfl rfl sz0 ?_
  refine ZE.field rfl rfl rfl rfl sz0 (fun W => g52_0 dk W) ?_
  refine ZE.load rfl rfl rfl rfl sz1 (fun W hW => ldP24 (D4.bl.on (sb_of hW)) rfl) ?_
  refine ZE.field rfl rfl rfl rfl sz0 (fun W => f55_1 q3 W) ?_
  first | refine ZE.load rfl rfl rfl rfl sz1 (fun W hW => (b34.on (sb_of hW)).ldU (a := [.int .i64 1]) (b := [u32v n, kw]) (n := t) (o := 1) rfl rfl) ?_ | refine ZE.load rfl rfl rfl rfl sz1 (fun W hW => (b34.on (sb_of hW)).ldU (a := [.int .i64 1, u32v t]) (b := [kw]) (n := n) (o := 2) rfl rfl) ?_
  refine ZE.field rfl rfl rfl rfl sz0 (fun W => f55_2 q3 W) ?_
  first | refine ZE.load rfl rfl rfl rfl sz1 (fun W hW => (b34.on (sb_of hW)).ldU (a := [.int .i64 1]) (b := [u32v n, kw]) (n := t) (o := 1) rfl rfl) ?_ | refine ZE.load rfl rfl rfl rfl sz1 (fun W hW => (b34.on (sb_of hW)).ldU (a := [.int .i64 1, u32v t]) (b := [kw]) (n := n) (o := 2) rfl rfl) ?_
  first | refine ZE.move rfl rfl rfl rfl sz0 ?_
  refine ZE.callV [.pointer (some ⟨p, 0, none⟩), u32v t, u32v n, vk] (.int .i64 N) (fun W => Fx (fun k => k = r) w4 W ∧ (N ≠ 0 → Tb W p r most E c) ∧ (N = 0 → Tb W p r most (E ++ adE t n c Ks) (c + Ks.length))) enter7 rfl rfl rfl (fun _ _ => .inl rfl) (fun W hW => (add_any (D4.tb.on hW) D.le D.mo t n ht hn (kvk.on hW) (by omega) (fun b hb => .inl (by have := hvk b hb; omega))).mono fun e w' ⟨h1, h2, h3, h4⟩ => (by rw [← hN] at h1 h2 h3; exact ⟨h1, (Fx.of_below hW).and h4, h2, h3⟩)) ?_
  first | refine ZE.assign rfl rfl rfl rfl sz0 ?_
  rintro w5 ⟨f5, tbA, tbB⟩
  refine EW.on ?_
  refine EW.seq ?_
  refine EW.seq ?_
  have bl5 := D4.bl.fx f5 hNE.1
  have rt5 := D4.rt.fx f5 (fun e => hNE.2.2.2.2.1 e.symm) (fun b hb => (hNE.2.2.2.2.2.2 b hb).2.2.1)
  have b35 := b34.fx f5 (by show ¬ q3 = r; omega)
  have ho2 : ¬ q3 = q := by omega
  have be5 := bfx D4.be f5 D.lo.2.2.1
  have kv5 := kvk.fx f5 (fun b hb => .inl (by have := hvk b hb; omega))
  have ko5 := kod.fx f5 (fun b hb => by have := hvlg b hb; omega)
  have kl5 := ko5.kl
  have hvq : ∀ b, vk.ownBlock = some b → ¬ b = q := fun b hb => by have := hvk b hb; omega
  have hlq : ∀ b, vl.ownBlock = some b → ¬ b = q := fun b hb => by have := hvlg b hb; omega
  have hkq : ∀ b, kw.ownBlock = some b → b ≠ q ∨ Ks = [] := fun b hb => (hkb b hb).imp (fun e => by have := D.lo; omega) id
  have hk5 := hk4.fx f5 (fun b hb => (hkb b hb).imp (fun e => by have := D.lo; omega) id)
  obtain ⟨ad7, ix7, ld7⟩ := kl5.get Ks7
  obtain ⟨ad8, ix8, ld8⟩ := kl5.get Ks8
  obtain ⟨X6, hX6e⟩ : ∃ X : World → Prop, X = fun W => Fx (fun k => k = q) w5 W ∧ ∃ v' L', Rt W q v' most L' ∧ L'.Pairwise Lt ∧ (N ≠ 0 → L' = L) ∧ (N = 0 → L'.Perm (L ++ adS t n Ks)) ∧ (∀ b, v'.ownBlock = some b → v.ownBlock = some b ∨ w5.heap.size ≤ b) := ⟨_, rfl⟩
  have hX6 : ∀ W, X6 W → Fx (fun k => k = q) w5 W := fun W h => by rw [hX6e] at h; exact h.1
  have hX6o : ∀ W W', X6 W → Below W.heap.size W W' → X6 W' := fun W W' h k => by
    rw [hX6e] at h ⊢
    obtain ⟨h1, v', L', h2, h3⟩ := h
    exact ⟨h1.then_below k, v', L', h2.on k, h3⟩
  refine EW.ordZ [(0, 0, 0), (1, 0, 0), (2, 0, 0), (3, 0, 0), (4, 0, 1), (5, 0, 0), (6, 0, 1), (7, 0, 0), (8, 0, 1), (9, 0, 0), (10, 0, 1), (11, 1, 1), (12, 0, 0), (13, 0, 0), (14, 0, 0), (15, 0, 0), (16, 0, 1), (17, 1, 1), (18, 0, 0), (19, 0, 0), (20, 0, 0), (21, 0, 0), (22, 0, 0), (23, 0, 0), (24, 0, 0), (25, 0, 1), (26, 0, 0), (27, 0, 0), (28, 0, 0), (29, 0, 0), (30, 0, 0), (31, 0, 0), (32, 0, 0), (33, 0, 0), (34, 0, 0), (35, 0, 1), (36, 0, 0), (37, 0, 0), (38, 0, 0)] (SQ (fun W => Fx (fun k => k = q) w5 W)) (fun W => Below w5.heap.size w5 W) (by kernel_rfl) rfl (by kernel_rfl) (sq_anti _) (below_drawn w5) ?_
  simp only [opsZ, List.getD_cons_zero, List.getD_cons_succ]
  first | refine ZE.move rfl rfl rfl rfl sq0 ?_
  first | refine ZE.move rfl rfl rfl rfl sq0 ?_
  first | refine ZE.nilc rfl rfl rfl rfl sq0 ?_
  refine ZE.field rfl rfl rfl rfl sq0 (fun W => g52_1 dk W) ?_
  refine ZE.load rfl rfl rfl rfl (fun W h => .inr (Fx.of_below h)) (fun W hW => ldP45 (bl5.fx (sq_of hW) hNE.2.1) rfl) ?_
  refine ZE.field rfl rfl rfl rfl sq0 (fun W => f55_1 q3 W) ?_
  first | refine ZE.load rfl rfl rfl rfl (fun W h => .inr (Fx.of_below h)) (fun W hW => (b35.fx (sq_of hW) ho2).ldU (a := [.int .i64 1]) (b := [u32v n, kw]) (n := t) (o := 1) rfl rfl) ?_ | refine ZE.load rfl rfl rfl rfl (fun W h => .inr (Fx.of_below h)) (fun W hW => (b35.fx (sq_of hW) ho2).ldU (a := [.int .i64 1, u32v t]) (b := [kw]) (n := n) (o := 2) rfl rfl) ?_
  refine ZE.field rfl rfl rfl rfl sq0 (fun W => f55_2 q3 W) ?_
  first | refine ZE.load rfl rfl rfl rfl (fun W h => .inr (Fx.of_below h)) (fun W hW => (b35.fx (sq_of hW) ho2).ldU (a := [.int .i64 1]) (b := [u32v n, kw]) (n := t) (o := 1) rfl rfl) ?_ | refine ZE.load rfl rfl rfl rfl (fun W h => .inr (Fx.of_below h)) (fun W hW => (b35.fx (sq_of hW) ho2).ldU (a := [.int .i64 1, u32v t]) (b := [kw]) (n := n) (o := 2) rfl rfl) ?_
  refine ZE.field rfl rfl rfl rfl sq0 (fun W => f55_3 q3 W) ?_
  refine ZE.load rfl rfl rfl rfl (fun W h => .inr (Fx.of_below h)) (fun W hW => ldS22 (b35.fx (sq_of hW) ho2) rfl hkws) ?_
  refine ZE.callV [.pointer (some ⟨q, 0, none⟩), u32v t, u32v n, kw] (.int .i64 N) X6 enter24 rfl rfl rfl (fun W h => .inr (hX6 W h)) (fun W hW => (radd_any (rt5.on hW) (by have := D.le; omega) D.mo D.lt t n ht hn (hk5.on hW) (by omega) hkq).mono fun e w' ⟨h1, v', L', h2, h3, h4, h5, h6, h7⟩ => (by rw [hNL] at h1 h4 h5; rw [hX6e]; exact ⟨h1, (Fx.of_below hW).and h6, v', L', h2, h3, h4, h5, fun b hb => (h7 b hb).imp id (fun e => by have := hW.size; omega)⟩)) ?_
  refine ZE.bin rfl rfl rfl rfl rfl sq0 (fun W => int_ne_f rfl W _ _) ?_
  first | refine ZE.move rfl rfl rfl rfl sq0 ?_
  first | refine ZE.move rfl rfl rfl rfl sq0 ?_ | refine ZE.skip rfl rfl rfl sq0 ?_
  refine ZE.field rfl rfl rfl rfl sq0 (fun W => f55_3 q3 W) ?_
  refine ZE.load rfl rfl rfl rfl (fun W h => .inr (hX6 W h)) (fun W hW => ldS22 (b35.fx (sq_of hW) ho2) rfl hkws) ?_
  refine ZE.callV [vk, kw] (.bool true) X6 enter25 rfl rfl rfl (fun W h => .inr (hX6 W h)) (fun W hW => (sameK_any (kv5.fx (hX6 W hW) (fun b hb => .inl (hvq b hb))) (hk5.fx (hX6 W hW) hkq) (by omega)).mono fun e w' ⟨h1, h2⟩ => ⟨h1, hX6o W w' hW h2⟩) ?_
  refine ZE.un rfl rfl rfl rfl sq0 (fun W => not_t _ W) ?_
  first | refine ZE.pick rfl rfl rfl rfl rfl sq0 ?_
  first | refine ZE.move rfl rfl rfl rfl sq0 ?_
  first | refine ZE.move rfl rfl rfl rfl sq0 ?_ | refine ZE.skip rfl rfl rfl sq0 ?_
  first | refine ZE.move rfl rfl rfl rfl sq0 ?_ | refine ZE.skip rfl rfl rfl sq0 ?_
  refine ZE.len rfl rfl rfl rfl sq0 (fun W => kvk.len W _) ?_
  refine ZE.index rfl rfl rfl rfl rfl sq0 ix7 ?_
  refine ZE.load rfl rfl rfl rfl (fun W h => .inr (hX6 W h)) (fun W hW => ld7 W (kl5.fx (sq_of hW) (fun b hb => .inl (hlq b hb)))) ?_
  refine ZE.buildN [(0, .int .u8 7)] rfl rfl rfl rfl sq0 (fun W => b29_7 W) ?_
  refine ZE.bin rfl rfl rfl rfl rfl sq0 (fun W => neq29_same rfl W _ _) ?_
  first | refine ZE.pick rfl rfl rfl rfl rfl sq0 ?_
  first | refine ZE.move rfl rfl rfl rfl sq0 ?_
  first | refine ZE.move rfl rfl rfl rfl sq0 ?_ | refine ZE.skip rfl rfl rfl sq0 ?_
  first | refine ZE.move rfl rfl rfl rfl sq0 ?_ | refine ZE.skip rfl rfl rfl sq0 ?_
  refine ZE.len rfl rfl rfl rfl sq0 (fun W => kvk.len W _) ?_
  refine ZE.bin rfl rfl rfl rfl rfl sq0 (fun W => int_add (c := ((Ks.length + 1 : Nat) : Int)) (by rw [IntKind.wrap_i64]; omega) W _ _) ?_
  refine ZE.index rfl rfl rfl rfl rfl sq0 ix8 ?_
  refine ZE.load rfl rfl rfl rfl (fun W h => .inr (hX6 W h)) (fun W hW => ld8 W (kl5.fx (sq_of hW) (fun b hb => .inl (hlq b hb)))) ?_
  refine ZE.buildN [(0, .int .u8 8)] rfl rfl rfl rfl sq0 (fun W => b29_8 W) ?_
  refine ZE.bin rfl rfl rfl rfl rfl sq0 (fun W => neq29_same rfl W _ _) ?_
  first | refine ZE.pick rfl rfl rfl rfl rfl sq0 ?_
  rintro w6 hx6
  refine EW.on ?_
  refine EW.cond_f rfl ?_
  refine EW.skip ?_
  refine EW.on ?_
  refine EW.seq ?_
  have f6 := hX6 _ hx6
  rw [hX6e] at hx6
  obtain ⟨_, v6, L6, rt6, lt6, hL0, hL1, ho6⟩ := hx6
  obtain ⟨E6, c6, tb6, pm6, le6⟩ : ∃ E6 c6, Tb w6 p r most E6 c6 ∧ (E6.map Me.sk).Perm L6 ∧ E6.length ≤ most := by
    by_cases hn0 : N = 0
    · refine ⟨E ++ adE t n c Ks, c + Ks.length, (tbB hn0).fx f6 hNE.2.2.2.1 hNE.2.2.2.2.1, ?_, ?_⟩
      · rw [List.map_append, adS_sk]
        exact (D.pm.append_right _).trans (hL1 hn0).symm
      · rw [List.length_append, adE_len]
        exact adN0 (hN ▸ hn0)
    · refine ⟨E, c, (tbA hn0).fx f6 hNE.2.2.2.1 hNE.2.2.2.2.1, ?_, D.le⟩
      rw [hL0 hn0]
      exact D.pm
  have D6 : Ds w0 dk p r q v6 most E6 c6 L6 w6 := ⟨bl5.fx f6 hNE.2.1, tb6, rt6, pm6, lt6, le6, D.mo, D.lo, fun b hb => (by rcases ho6 b hb with e | e; exact D.lv b e; have := be5.size; omega), bfx be5 f6 D.lo.2.2.2⟩
  have ko6 := ko5.fx f6 (fun b hb => hlq b hb)
  refine EW.region ?_
  first | refine WL.assign rfl rfl rfl ?_
  refine WL.done ?_
  refine EW.on ?_
  refine EW.block ?_
  refine EW.loop (saE vk) (SaR w0 dk p r q v6 most E6 c6 L6 vl Ks.length) (fun x => Ks.length - x) 0 [6, 8] rfl ⟨Nat.zero_le _, D6, _, (by rw [List.length_append]; rfl), ko6⟩ ?_
  rintro x wj ⟨hxl, Dx, lx, hlx, kox⟩
  show EW _ _ _ _ [(6, vk), (8, .int .i64 (x : Int))] _
  refine EW.seq ?_
  refine EW.seq ?_
  refine EW.region ?_
  first | refine WL.move rfl rfl rfl ?_
  first | refine WL.move rfl rfl rfl ?_
  refine WL.len rfl rfl rfl (kvk.len _ _) ?_
  refine WL.bin rfl rfl rfl rfl (int_lt_d _ _ _ _ _) ?_
  refine WL.done ?_
  refine EW.on ?_
  refine EW.cond_d rfl (fun h87 => ?_) (fun h87 => ?_)
  · refine EW.skip ?_
    refine EW.on ?_
    refine EW.seq ?_
    refine EW.block ?_
    have hlt : x < Ks.length := by omega
    obtain ⟨csg, hBg⟩ : ∃ cs, Blk wj g cs 29 := kox.ow.blk (b := g) (by rw [hvl]; rfl)
    rw [hvl] at kox
    obtain ⟨w7, rs, kos, fs⟩ := kox.set (i := x) (K := 238 :: List.replicate 31 0) (by omega) rfl
    rw [← hvl] at kos
    have D7 := Dx.fx29 hBg fs (by have := D1.be.size; omega)
    have ixs : (Instr.indexAt 22 vk (.int .i64 (x : Int))).run Try.prog wj = .ok (.pointer (some ((⟨g, 0, none⟩ : Addr).add (x * 32)))) wj := by rw [hvke]; exact idx22 _ _ _ _ hlt _
    refine EW.region ?_
    first | refine WL.move rfl rfl rfl ?_
    first | refine WL.move rfl rfl rfl ?_
    refine WL.buildN [(0, .int .u8 238)] rfl rfl rfl (b29_238 _) ?_
    refine WL.index rfl rfl rfl rfl ixs ?_
    refine WL.store rfl rfl rfl rs ?_
    refine WL.done ?_
    refine pn_block ?_
    refine EW.on ?_
    refine EW.region ?_
    first | refine WL.move rfl rfl rfl ?_
    refine WL.bin rfl rfl rfl rfl (int_add (c := ((x + 1 : Nat) : Int)) (by rw [IntKind.wrap_i64]; omega) _ _ _) ?_
    first | refine WL.assign rfl rfl rfl ?_
    refine WL.done ?_
    exact EW.again (E := saE vk) (R := (SaR w0 dk p r q v6 most E6 c6 L6 vl Ks.length)) (m := fun x => Ks.length - x) (x := x) (x + 1) [6, 8] rfl ⟨by omega, D7, _, (by rw [List.length_set]; exact hlx), kos⟩ (by show Ks.length - (x + 1) < Ks.length - x; omega)
  · refine EW.exit ?_
    refine px_then ?_
    refine px_then ?_
    refine px_block ?_
    refine pn_block ?_
    refine EW.on ?_
    refine EW.seq ?_
    refine EW.region ?_
    first | refine WL.assign rfl rfl rfl ?_
    refine WL.done ?_
    refine EW.on ?_
    refine EW.ret ?_
    exact EW.returns Try.results17 rfl ⟨rfl, p, r, v6, E6, c6, L6, Dx⟩
end Go.Proofs.Ytggehhlobjjmpaa
