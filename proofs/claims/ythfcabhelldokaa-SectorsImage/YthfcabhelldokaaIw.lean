import Derived.Test.YthfcabhelldokaaIv
set_option linter.unusedVariables false
set_option linter.unusedSimpArgs false
namespace Go.Proofs.Ythfcabhelldokaa
open Go.RowKit

def imE1 (sv sv2 : Value) (p : Nat) (t : Nat) : List (Nat × Value) := [(0, sv), (1, sv2), (5, .pointer (some ⟨p, 0, none⟩)), (7, .int .i64 (t : Int))]
def imE2 (sv2 : Value) (p q : Nat) (t : Nat) : List (Nat × Value) := [(1, sv2), (5, .pointer (some ⟨p, 0, none⟩)), (10, .pointer (some ⟨q, 0, none⟩)), (12, .int .i64 (t : Int))]
theorem tn200 (t : Nat) (h2 : t < 200) : IntKind.i64.wrap ((t : Int) + 1) = ((t + 1 : Nat) : Int) := by rw [IntKind.wrap_i64]; omega
theorem ms200 (t : Nat) (h2 : t < 200) : 200 - (t + 1) < 200 - t := by omega
set_option maxRecDepth 100000 in
set_option maxHeartbeats 8000000 in
theorem image_law (sv sv2 : Value) (ss ss2 : List Stp) (w : World) (hsc : Script w sv ss) (hsc2 : Script w sv2 ss2) :
    Calls Try.prog 6 #[sv, sv2] w fun e w' => e = .returned (.bool true) ∧ Below w.heap.size w w' := by
  have hA := new_any 4 (by decide) (by decide) w
  have M1 := Mine.new w 4 (zer 4) (by decide) (by decide) (zer_length 4)
  obtain ⟨wa, hwa⟩ : ∃ wa, newW w 4 (zer 4) = wa := ⟨_, rfl⟩
  rw [hwa] at hA M1
  obtain ⟨p, hp⟩ : ∃ p, w.heap.size + 2 = p := ⟨_, rfl⟩
  rw [hp] at hA M1
  have hF := fixed_any wa
  have hlen := hsc.len
  have hlen2 := hsc2.len
  obtain ⟨n, hn⟩ : ∃ n, ss.length = n := ⟨_, rfl⟩
  obtain ⟨n2, hn2⟩ : ∃ n, ss2.length = n := ⟨_, rfl⟩
  rw [hn] at hlen
  rw [hn2] at hlen2
  refine calls_of_args [sv, sv2] Try.func6 rfl 129 Try.ntmps6 (by show 2 ≤ 129; decide) ?_
  refine EW.seq ?_
  refine EW.region ?_
  first | refine WL.assign rfl rfl rfl ?_
  refine WL.done ?_
  refine EW.on ?_
  refine EW.seq ?_
  refine EW.region ?_
  refine WL.call [.int .i64 4] enter18 rfl rfl rfl hA ?_
  rintro x w3 ⟨rfl, hz⟩
  rw [hz]; clear hz w3
  refine ⟨_, rfl, ?_⟩
  first | refine WL.move rfl rfl rfl ?_
  first | refine WL.extract rfl rfl rfl (ext_2 _ _ _).1 ?_
  first | refine WL.extract rfl rfl rfl (ext_2 _ _ _).2 ?_
  first | refine WL.assign rfl rfl rfl ?_
  first | refine WL.assign rfl rfl rfl ?_
  refine WL.done ?_
  refine EW.on ?_
  refine EW.seq ?_
  refine EW.seq ?_
  refine EW.region ?_
  first | refine WL.move rfl rfl rfl ?_
  first | refine WL.bin rfl rfl rfl rfl (int_ne_f rfl _ _ _) ?_ | refine WL.bin rfl rfl rfl rfl (int_ne_t ‹_› _ _ _) ?_ | refine WL.bin rfl rfl rfl rfl (int_ne_f ‹_› _ _ _) ?_ | refine WL.bin rfl rfl rfl rfl (int_ne_t (by decide) _ _ _) ?_
  first | refine WL.move rfl rfl rfl ?_
  first | refine WL.move rfl rfl rfl ?_ | refine WL.skip _ rfl rfl rfl ?_
  first | refine WL.bin rfl rfl rfl rfl (ptr_eq_f _ _ _ _) ?_ | refine WL.skip _ rfl rfl rfl ?_
  first | refine WL.pick rfl rfl rfl rfl ?_
  first | refine WL.move rfl rfl rfl ?_
  refine WL.call [] enter10 rfl rfl rfl hF ?_
  rintro x wf ⟨rfl, hz⟩
  have MF := M1.below hz
  have ON : One1 w wf p 0 := ⟨_, _, rfl, MF, rfl, Nat.le_refl _, Nat.le_refl _, Nat.le_refl _⟩
  refine ⟨_, rfl, ?_⟩
  first | refine WL.un rfl rfl rfl (not_t _ _) ?_ | refine WL.skip _ rfl rfl rfl ?_
  first | refine WL.pick rfl rfl rfl rfl ?_
  refine WL.done ?_
  refine EW.on ?_
  refine EW.cond_f rfl ?_
  refine EW.skip ?_
  refine EW.on ?_
  refine EW.seq ?_
  refine EW.seq ?_
  refine EW.region ?_
  first | refine WL.assign rfl rfl rfl ?_
  refine WL.done ?_
  refine EW.on ?_
  refine EW.block ?_
  refine EW.loop (imE1 sv sv2 p) (fun t W => t ≤ n ∧ t ≤ 200 ∧ One1 w W p t) (fun t => 200 - t) 0 [0, 1, 5, 7] rfl ⟨Nat.zero_le _, Nat.zero_le _, ON⟩ ?_
  rintro t wr ⟨htn, ht2, hs⟩
  show EW _ _ _ _ [(0, sv), (1, sv2), (5, .pointer (some ⟨p, 0, none⟩)), (7, .int .i64 (t : Int))] _
  by_cases hl1 : t < n
  · by_cases hl2 : t < 200
    · have z1 : (t : Int) < (n : Int) := Int.ofNat_lt.2 hl1
      have z2 : (t : Int) < 200 := Int.ofNat_lt.2 hl2
      have tn := tn200 t hl2
      obtain ⟨s, hsx⟩ : ∃ s, ss[t]? = some s := ⟨ss[t]'(by rw [hn]; exact hl1), List.getElem?_eq_getElem _⟩
      obtain ⟨ad, hix, hat, hok⟩ := hsc.item t s hsx
      have BEr : Below w.heap.size w wr := by obtain ⟨_, _, _, h3, _⟩ := hs; exact h3.be
      have AT := hat.below BEr
      have hcf := img_one hs ht2 s hok
      refine EW.seq ?_
      refine EW.seq ?_
      refine EW.region ?_
      first | refine WL.move rfl rfl rfl ?_
      first | refine WL.move rfl rfl rfl ?_
      refine WL.len rfl rfl rfl (hlen _ _) ?_
      first | refine WL.bin rfl rfl rfl rfl (int_lt_t ‹_› _ _ _) ?_ | refine WL.bin rfl rfl rfl rfl (int_lt_f ‹_› _ _ _) ?_
      first | refine WL.move rfl rfl rfl ?_
      first | refine WL.move rfl rfl rfl ?_ | refine WL.skip _ rfl rfl rfl ?_
      first | refine WL.bin rfl rfl rfl rfl (int_lt_t ‹_› _ _ _) ?_ | refine WL.bin rfl rfl rfl rfl (int_lt_f ‹_› _ _ _) ?_ | refine WL.skip _ rfl rfl rfl ?_
      first | refine WL.pick rfl rfl rfl rfl ?_
      refine WL.done ?_
      refine EW.on ?_
      refine EW.cond_t rfl ?_
      refine EW.skip ?_
      refine EW.on ?_
      refine EW.seq ?_
      refine EW.block ?_
      refine EW.region ?_
      first | refine WL.move rfl rfl rfl ?_
      first | refine WL.move rfl rfl rfl ?_
      first | refine WL.move rfl rfl rfl ?_
      refine WL.index rfl rfl rfl rfl (hix _) ?_
      refine WL.load rfl rfl rfl (run_loadA AT Try.underlying53 rfl (info53 _)) ?_
      refine WL.call [.pointer (some ⟨p, 0, none⟩), .agg (stC s).toArray] enter21 rfl rfl rfl hcf ?_
      rintro x w3 ⟨⟨v, rfl⟩, hA5⟩
      refine ⟨_, rfl, ?_⟩
      refine WL.done ?_
      refine pn_block ?_
      refine EW.on ?_
      refine EW.region ?_
      first | refine WL.move rfl rfl rfl ?_
      first | refine WL.bin rfl rfl rfl rfl (int_add ‹_› _ _ _) ?_
      first | refine WL.assign rfl rfl rfl ?_
      refine WL.done ?_
      exact EW.again (t + 1) [0, 1, 5, 7] rfl ⟨hl1, hl2, hA5⟩ (ms200 t hl2)
    · have z1 : (t : Int) < (n : Int) := Int.ofNat_lt.2 hl1
      have z2 : ¬ (t : Int) < 200 := fun h => hl2 (Int.ofNat_lt.1 h)
      refine EW.seq ?_
      refine EW.seq ?_
      refine EW.region ?_
      first | refine WL.move rfl rfl rfl ?_
      first | refine WL.move rfl rfl rfl ?_
      refine WL.len rfl rfl rfl (hlen _ _) ?_
      first | refine WL.bin rfl rfl rfl rfl (int_lt_t ‹_› _ _ _) ?_ | refine WL.bin rfl rfl rfl rfl (int_lt_f ‹_› _ _ _) ?_
      first | refine WL.move rfl rfl rfl ?_
      first | refine WL.move rfl rfl rfl ?_ | refine WL.skip _ rfl rfl rfl ?_
      first | refine WL.bin rfl rfl rfl rfl (int_lt_t ‹_› _ _ _) ?_ | refine WL.bin rfl rfl rfl rfl (int_lt_f ‹_› _ _ _) ?_ | refine WL.skip _ rfl rfl rfl ?_
      first | refine WL.pick rfl rfl rfl rfl ?_
      refine WL.done ?_
      refine EW.on ?_
      refine EW.cond_f rfl ?_
      refine EW.exit ?_
      repeat refine px_then ?_
      refine px_block ?_
      refine EW.on ?_
      refine EW.seq ?_
      obtain ⟨L, D, hLp, hm, hDn, hDc, hDp, hDl⟩ := hs
      have hup := up_any hm.dev
      rw [hLp] at hup
      refine EW.region ?_
      first | refine WL.move rfl rfl rfl ?_
      refine WL.call [.pointer (some ⟨p, 0, none⟩)] enter25 rfl rfl rfl hup ?_
      rintro x w3 ⟨rfl, ht3, hd3⟩
      have m3 := hm.turn ht3 hd3
      have hfl := flush_ok m3.dev rfl (by show D.calls < _; omega) (by show 0 < _; decide) (by show ¬ 0 = 1; decide)
      rw [show (unkL L).p = p from hLp] at hfl
      clear ht3 hd3
      refine ⟨_, rfl, ?_⟩
      first | refine WL.assign rfl rfl rfl ?_
      refine WL.done ?_
      refine EW.on ?_
      refine EW.seq ?_
      refine EW.region ?_
      first | refine WL.move rfl rfl rfl ?_
      refine WL.call [.pointer (some ⟨p, 0, none⟩)] enter26 rfl rfl rfl hfl ?_
      rintro x w4 ⟨rfl, ht4, hd4⟩
      have m4 := m3.turn ht4 hd4
      have him := image_any m4.dev
      rw [show (dropL (unkL L)).p = p from hLp] at him
      have hilen := m4.dev.ok.len
      clear ht4 hd4
      refine ⟨_, rfl, ?_⟩
      first | refine WL.assign rfl rfl rfl ?_
      refine WL.done ?_
      refine EW.on ?_
      refine EW.seq ?_
      obtain ⟨img, himg⟩ : ∃ img, (flushD (upD D)).img = img := ⟨_, rfl⟩
      have hil : img.length = D.n * 512 := by rw [← himg]; exact hilen
      rw [himg] at him
      have b5 : Blk (w4.alloc (.cells (img.map byt).toArray 5)) w4.heap.size (img.map byt) 5 := Blk.new _ _ _
      have be5 : Below w4.heap.size w4 (w4.alloc (.cells (img.map byt).toArray 5)) := below_new _ _
      have m5 := m4.below be5
      obtain ⟨w5, hw5⟩ : ∃ w5, w4.alloc (.cells (img.map byt).toArray 5) = w5 := ⟨_, rfl⟩
      rw [hw5] at b5 be5 m5 him
      have hlo := load_ok (.slice (some ⟨w4.heap.size, 0, none⟩) img.length img.length) img D.n hm.dev.ok.n1 hm.dev.ok.n2 hil w5 (.inr ⟨⟨w4.heap.size, 0, none⟩, img.length, rfl, Nat.le_refl _, fun i u hu => by rw [add_plain, b5.cell, List.getElem?_map, hu]; rfl⟩)
      have m6 := Mine.newX (w := w) (X := w5) (W := newW w5 D.n img) (n := D.n) (img := img) m5.be rfl hm.dev.ok.n1 hm.dev.ok.n2 hil
      have du : Duo w (newW w5 D.n img) (dropL (unkL L)) (freshL (w5.heap.size + 2) w5.heap.size (w5.heap.size + 1)) (flushD (upD D)) (freshD D.n img) :=
        ⟨m5.below (newW_below w5 D.n img), m6, fun k h1 h2 => by
          have h3 := m5.dev.lt k h1
          have h4 := (Mine.new w5 D.n img hm.dev.ok.n1 hm.dev.ok.n2 hil).own k h2
          omega⟩
      have hfe : flushD (upD D) = calD (freshD D.n img) (D.calls + 1) := by rw [← himg]; rfl
      rw [hfe] at du
      obtain ⟨q, hq⟩ : ∃ q, w5.heap.size + 2 = q := ⟨_, rfl⟩
      have I2 : Img2 w (newW w5 D.n img) p q 0 := ⟨dropL (unkL L), freshL (w5.heap.size + 2) w5.heap.size (w5.heap.size + 1), freshD D.n img, D.calls + 1, hLp, hq, du, Nat.le_refl _, by omega, Nat.le_refl _, Nat.le_refl _⟩
      rw [hq] at hlo
      obtain ⟨w6, hw6⟩ : ∃ w6, newW w5 D.n img = w6 := ⟨_, rfl⟩
      rw [hw6] at hlo I2
      clear du m6 m5 b5 hfe hq
      refine EW.region ?_
      first | refine WL.move rfl rfl rfl ?_
      refine WL.call [.pointer (some ⟨p, 0, none⟩)] enter16 rfl rfl rfl him ?_
      rintro x w7 ⟨rfl, hz⟩
      rw [hz]; clear hz w7
      refine ⟨_, rfl, ?_⟩
      refine WL.call [.slice (some ⟨w4.heap.size, 0, none⟩) img.length img.length] enter27 rfl rfl rfl hlo ?_
      rintro x w7 ⟨rfl, hz⟩
      rw [hz]; clear hz w7
      refine ⟨_, rfl, ?_⟩
      first | refine WL.move rfl rfl rfl ?_
      first | refine WL.extract rfl rfl rfl (ext_2 _ _ _).1 ?_
      first | refine WL.extract rfl rfl rfl (ext_2 _ _ _).2 ?_
      first | refine WL.assign rfl rfl rfl ?_
      first | refine WL.assign rfl rfl rfl ?_
      refine WL.done ?_
      refine EW.on ?_
      refine EW.seq ?_
      refine EW.seq ?_
      refine EW.region ?_
      first | refine WL.move rfl rfl rfl ?_
      first | refine WL.bin rfl rfl rfl rfl (int_ne_f rfl _ _ _) ?_ | refine WL.bin rfl rfl rfl rfl (int_ne_t ‹_› _ _ _) ?_ | refine WL.bin rfl rfl rfl rfl (int_ne_f ‹_› _ _ _) ?_ | refine WL.bin rfl rfl rfl rfl (int_ne_t (by decide) _ _ _) ?_
      first | refine WL.move rfl rfl rfl ?_
      first | refine WL.move rfl rfl rfl ?_ | refine WL.skip _ rfl rfl rfl ?_
      first | refine WL.bin rfl rfl rfl rfl (int_ne_f rfl _ _ _) ?_ | refine WL.bin rfl rfl rfl rfl (int_ne_t ‹_› _ _ _) ?_ | refine WL.bin rfl rfl rfl rfl (int_ne_f ‹_› _ _ _) ?_ | refine WL.bin rfl rfl rfl rfl (int_ne_t (by decide) _ _ _) ?_ | refine WL.skip _ rfl rfl rfl ?_
      first | refine WL.pick rfl rfl rfl rfl ?_
      first | refine WL.move rfl rfl rfl ?_
      first | refine WL.move rfl rfl rfl ?_ | refine WL.skip _ rfl rfl rfl ?_
      first | refine WL.bin rfl rfl rfl rfl (int_ne_f rfl _ _ _) ?_ | refine WL.bin rfl rfl rfl rfl (int_ne_t ‹_› _ _ _) ?_ | refine WL.bin rfl rfl rfl rfl (int_ne_f ‹_› _ _ _) ?_ | refine WL.bin rfl rfl rfl rfl (int_ne_t (by decide) _ _ _) ?_ | refine WL.skip _ rfl rfl rfl ?_
      first | refine WL.pick rfl rfl rfl rfl ?_
      first | refine WL.move rfl rfl rfl ?_
      first | refine WL.move rfl rfl rfl ?_ | refine WL.skip _ rfl rfl rfl ?_
      first | refine WL.bin rfl rfl rfl rfl (ptr_eq_f _ _ _ _) ?_ | refine WL.skip _ rfl rfl rfl ?_
      first | refine WL.pick rfl rfl rfl rfl ?_
      refine WL.done ?_
      refine EW.on ?_
      refine EW.cond_f rfl ?_
      refine EW.skip ?_
      refine EW.on ?_
      refine EW.seq ?_
      refine EW.seq ?_
      refine EW.region ?_
      first | refine WL.assign rfl rfl rfl ?_
      refine WL.done ?_
      refine EW.on ?_
      refine EW.block ?_
      refine EW.loop (imE2 sv2 p q) (fun t W => t ≤ n2 ∧ t ≤ 200 ∧ Img2 w W p q t) (fun t => 200 - t) 0 [1, 5, 10, 12] rfl ⟨Nat.zero_le _, Nat.zero_le _, I2⟩ ?_
      clear hup hilen hil him hlo I2 hw6 hw5 be5 hm
      rintro u wr2 ⟨hun, hu2, hs2⟩
      show EW _ _ _ _ [(1, sv2), (5, .pointer (some ⟨p, 0, none⟩)), (10, .pointer (some ⟨q, 0, none⟩)), (12, .int .i64 (u : Int))] _
      by_cases gl1 : u < n2
      · by_cases gl2 : u < 200
        · have z1 : (u : Int) < (n2 : Int) := Int.ofNat_lt.2 gl1
          have z2 : (u : Int) < 200 := Int.ofNat_lt.2 gl2
          have tn := tn200 u gl2
          obtain ⟨s, hsx⟩ : ∃ s, ss2[u]? = some s := ⟨ss2[u]'(by rw [hn2]; exact gl1), List.getElem?_eq_getElem _⟩
          obtain ⟨ad, hix, hat, hok⟩ := hsc2.item u s hsx
          have BEr : Below w.heap.size w wr2 := by obtain ⟨_, _, _, _, _, _, h3, _⟩ := hs2; exact h3.d.be
          obtain ⟨x, y, hcf⟩ := img_two hs2 hu2 s hok
          refine EW.seq ?_
          refine EW.seq ?_
          refine EW.region ?_
          first | refine WL.move rfl rfl rfl ?_
          first | refine WL.move rfl rfl rfl ?_
          refine WL.len rfl rfl rfl (hlen2 _ _) ?_
          first | refine WL.bin rfl rfl rfl rfl (int_lt_t ‹_› _ _ _) ?_ | refine WL.bin rfl rfl rfl rfl (int_lt_f ‹_› _ _ _) ?_
          first | refine WL.move rfl rfl rfl ?_
          first | refine WL.move rfl rfl rfl ?_ | refine WL.skip _ rfl rfl rfl ?_
          first | refine WL.bin rfl rfl rfl rfl (int_lt_t ‹_› _ _ _) ?_ | refine WL.bin rfl rfl rfl rfl (int_lt_f ‹_› _ _ _) ?_ | refine WL.skip _ rfl rfl rfl ?_
          first | refine WL.pick rfl rfl rfl rfl ?_
          refine WL.done ?_
          refine EW.on ?_
          refine EW.cond_t rfl ?_
          refine EW.skip ?_
          refine EW.on ?_
          refine EW.seq ?_
          refine EW.block ?_
          refine EW.seq ?_
          refine EW.region ?_
          first | refine WL.move rfl rfl rfl ?_
          first | refine WL.move rfl rfl rfl ?_
          first | refine WL.move rfl rfl rfl ?_
          refine WL.index rfl rfl rfl rfl (hix _) ?_
          refine WL.load rfl rfl rfl (run_loadA (hat.below BEr) Try.underlying53 rfl (info53 _)) ?_
          refine WL.call [.pointer (some ⟨p, 0, none⟩), .agg (stC s).toArray] enter21 rfl rfl rfl hcf ?_
          rintro x w8 ⟨rfl, be8, hcg⟩
          refine ⟨_, rfl, ?_⟩
          first | refine WL.move rfl rfl rfl ?_
          first | refine WL.extract rfl rfl rfl (ext_2 _ _ _).1 ?_
          first | refine WL.extract rfl rfl rfl (ext_2 _ _ _).2 ?_
          first | refine WL.assign rfl rfl rfl ?_
          first | refine WL.assign rfl rfl rfl ?_
          refine WL.done ?_
          refine EW.on ?_
          refine EW.seq ?_
          refine EW.region ?_
          first | refine WL.move rfl rfl rfl ?_
          first | refine WL.move rfl rfl rfl ?_
          first | refine WL.move rfl rfl rfl ?_
          refine WL.index rfl rfl rfl rfl (hix _) ?_
          refine WL.load rfl rfl rfl (run_loadA (hat.below be8) Try.underlying53 rfl (info53 _)) ?_
          refine WL.call [.pointer (some ⟨q, 0, none⟩), .agg (stC s).toArray] enter21 rfl rfl rfl hcg ?_
          rintro x w9 ⟨rfl, hI9⟩
          refine ⟨_, rfl, ?_⟩
          first | refine WL.move rfl rfl rfl ?_
          first | refine WL.extract rfl rfl rfl (ext_2 _ _ _).1 ?_
          first | refine WL.extract rfl rfl rfl (ext_2 _ _ _).2 ?_
          first | refine WL.assign rfl rfl rfl ?_
          first | refine WL.assign rfl rfl rfl ?_
          refine WL.done ?_
          refine EW.on ?_
          refine EW.seq ?_
          obtain ⟨L9, M9, C, c, hp9, hq9, hduo, k2, k3, k4, k5⟩ := hI9
          have hda := down_any hduo.d.dev
          have hdb := down_any hduo.c.dev
          rw [hp9, show (calD C c).down = C.down from rfl] at hda
          rw [hq9] at hdb
          have ca := cache_any hduo.d.dev
          rw [hp9, show (calD C c).pen = C.pen from rfl] at ca
          refine EW.region ?_
          first | refine WL.move rfl rfl rfl ?_
          first | refine WL.move rfl rfl rfl ?_
          first | refine WL.bin rfl rfl rfl rfl (int_ne_f rfl _ _ _) ?_ | refine WL.bin rfl rfl rfl rfl (int_ne_t ‹_› _ _ _) ?_ | refine WL.bin rfl rfl rfl rfl (int_ne_f ‹_› _ _ _) ?_ | refine WL.bin rfl rfl rfl rfl (int_ne_t (by decide) _ _ _) ?_
          first | refine WL.move rfl rfl rfl ?_
          first | refine WL.move rfl rfl rfl ?_ | refine WL.skip _ rfl rfl rfl ?_
          first | refine WL.move rfl rfl rfl ?_ | refine WL.skip _ rfl rfl rfl ?_
          first | refine WL.bin rfl rfl rfl rfl (str_ne_f _ _ _ _) ?_ | refine WL.skip _ rfl rfl rfl ?_
          first | refine WL.pick rfl rfl rfl rfl ?_
          first | refine WL.move rfl rfl rfl ?_
          first | refine WL.move rfl rfl rfl ?_ | refine WL.skip _ rfl rfl rfl ?_
          refine WL.call [.pointer (some ⟨p, 0, none⟩)] enter22 rfl rfl rfl hda ?_
          rintro x w10 ⟨rfl, hz⟩
          rw [hz]; clear hz w10
          refine ⟨_, rfl, ?_⟩
          first | refine WL.move rfl rfl rfl ?_ | refine WL.skip _ rfl rfl rfl ?_
          refine WL.call [.pointer (some ⟨q, 0, none⟩)] enter22 rfl rfl rfl hdb ?_
          rintro x w10 ⟨rfl, hz⟩
          rw [hz]; clear hz w10
          refine ⟨_, rfl, ?_⟩
          refine WL.bin rfl rfl rfl rfl (bool_ne_f _ _ _ _) ?_
          first | refine WL.pick rfl rfl rfl rfl ?_
          first | refine WL.move rfl rfl rfl ?_
          first | refine WL.move rfl rfl rfl ?_ | refine WL.skip _ rfl rfl rfl ?_
          refine WL.call [.pointer (some ⟨p, 0, none⟩)] enter24 rfl rfl rfl ca ?_
          rintro x w10 ⟨rfl, be10, _, gs1, pn1⟩
          have duo10 := hduo.below be10
          have cb := cache_any duo10.c.dev
          rw [hq9] at cb
          refine ⟨_, rfl, ?_⟩
          first | refine WL.move rfl rfl rfl ?_ | refine WL.skip _ rfl rfl rfl ?_
          refine WL.call [.pointer (some ⟨q, 0, none⟩)] enter24 rfl rfl rfl cb ?_
          rintro x w11 ⟨rfl, be11, _, gs2, pn2⟩
          have duo11 := duo10.below be11
          have hsame := same_yes _ _ gs1 gs2 C.pen hduo.c.dev.ok.few (fun x hx => (hduo.c.dev.ok.sec x hx).2) w11 (pn1.below be11) pn2
          refine ⟨_, rfl, ?_⟩
          refine WL.call [.slice (some ⟨w9.heap.size, 0, none⟩) C.pen.length C.pen.length, .slice (some ⟨w10.heap.size, 0, none⟩) C.pen.length C.pen.length] enter23 rfl rfl rfl hsame ?_
          rintro x w12 ⟨rfl, be12⟩
          refine ⟨_, rfl, ?_⟩
          first | refine WL.un rfl rfl rfl (not_t _ _) ?_ | refine WL.skip _ rfl rfl rfl ?_
          first | refine WL.pick rfl rfl rfl rfl ?_
          refine WL.done ?_
          refine EW.on ?_
          refine EW.cond_f rfl ?_
          refine EW.skip ?_
          refine pn_block ?_
          refine EW.on ?_
          refine EW.region ?_
          first | refine WL.move rfl rfl rfl ?_
          first | refine WL.bin rfl rfl rfl rfl (int_add ‹_› _ _ _) ?_
          first | refine WL.assign rfl rfl rfl ?_
          refine WL.done ?_
          exact EW.again (u + 1) [1, 5, 10, 12] rfl ⟨gl1, gl2, L9, M9, C, c, hp9, hq9, duo11.below be12, k2, k3, k4, k5⟩ (ms200 u gl2)
        · have z1 : (u : Int) < (n2 : Int) := Int.ofNat_lt.2 gl1
          have z2 : ¬ (u : Int) < 200 := fun h => gl2 (Int.ofNat_lt.1 h)
          refine EW.seq ?_
          refine EW.seq ?_
          refine EW.region ?_
          first | refine WL.move rfl rfl rfl ?_
          first | refine WL.move rfl rfl rfl ?_
          refine WL.len rfl rfl rfl (hlen2 _ _) ?_
          first | refine WL.bin rfl rfl rfl rfl (int_lt_t ‹_› _ _ _) ?_ | refine WL.bin rfl rfl rfl rfl (int_lt_f ‹_› _ _ _) ?_
          first | refine WL.move rfl rfl rfl ?_
          first | refine WL.move rfl rfl rfl ?_ | refine WL.skip _ rfl rfl rfl ?_
          first | refine WL.bin rfl rfl rfl rfl (int_lt_t ‹_› _ _ _) ?_ | refine WL.bin rfl rfl rfl rfl (int_lt_f ‹_› _ _ _) ?_ | refine WL.skip _ rfl rfl rfl ?_
          first | refine WL.pick rfl rfl rfl rfl ?_
          refine WL.done ?_
          refine EW.on ?_
          refine EW.cond_f rfl ?_
          refine EW.exit ?_
          repeat refine px_then ?_
          refine px_block ?_
          refine EW.on ?_
          refine EW.seq ?_
          obtain ⟨L9, M9, C, c, hp9, hq9, hduo0, k2, k3, k4, k5⟩ := hs2
          have bd : Below wr2.heap.size wr2 { wr2 with drawn := wr2.drawn + 1 } := below_drawn wr2
          have hduo := hduo0.below bd
          obtain ⟨wd, hwd⟩ : ∃ wd, { wr2 with drawn := wr2.drawn + 1 } = wd := ⟨_, rfl⟩
          rw [hwd] at hduo
          have ima := image_any hduo.d.dev
          rw [hp9, show (calD C c).img = C.img from rfl] at ima
          have b1 : Blk (wd.alloc (.cells (C.img.map byt).toArray 5)) wd.heap.size (C.img.map byt) 5 := Blk.new _ _ _
          have be1 : Below wd.heap.size wd (wd.alloc (.cells (C.img.map byt).toArray 5)) := below_new _ _
          have hduo1 := hduo.below be1
          obtain ⟨w1, hw1⟩ : ∃ w1, wd.alloc (.cells (C.img.map byt).toArray 5) = w1 := ⟨_, rfl⟩
          rw [hw1] at b1 be1 hduo1 ima
          have imb := image_any hduo1.c.dev
          rw [hq9] at imb
          have b2 : Blk (w1.alloc (.cells (C.img.map byt).toArray 5)) w1.heap.size (C.img.map byt) 5 := Blk.new _ _ _
          have be2 : Below w1.heap.size w1 (w1.alloc (.cells (C.img.map byt).toArray 5)) := below_new _ _
          have hduo2 := hduo1.below be2
          obtain ⟨w2, hw2⟩ : ∃ w2, w1.alloc (.cells (C.img.map byt).toArray 5) = w2 := ⟨_, rfl⟩
          rw [hw2] at b2 be2 hduo2 imb
          have cvt : ∀ (g : Nat) (W : World), Blk W g (C.img.map byt) 5 → (Go.convert 34 9 (.slice (some ⟨g, 0, none⟩) C.img.length C.img.length)).run Try.prog W = .ok (.string ⟨C.img.toArray⟩) W := fun g W h => Has.convert (.inr ⟨⟨g, 0, none⟩, C.img.length, rfl, Nat.le_refl _, fun i u hu => by rw [add_plain, h.cell, List.getElem?_map, hu]; rfl⟩)
          refine EW.ord [(0, false), (3, false), (1, true), (2, false), (4, true), (5, false), (6, false), (7, false)] (fun _ => True) (by kernel_rfl) rfl (by kernel_rfl) trivial ?_
          rw [hwd]
          simp only [ordOps, List.getD_cons_zero, List.getD_cons_succ]
          refine OE.move rfl rfl rfl ?_
          refine OE.move rfl rfl rfl ?_
          refine OE.call [.pointer (some ⟨p, 0, none⟩)] (.slice (some ⟨wd.heap.size, 0, none⟩) C.img.length C.img.length) (fun W => Below w1.heap.size w1 W) (fun W => W = w1) enter16 rfl rfl rfl (fun W hW => by rw [hW]; exact Below.refl _ _) (fun _ _ => trivial) (fun W hW => by rw [hW]; exact ima) ?_
          refine OE.conv rfl rfl rfl (fun W hW => cvt _ W (b1.on hW)) ?_
          refine OE.call [.pointer (some ⟨q, 0, none⟩)] (.slice (some ⟨w1.heap.size, 0, none⟩) C.img.length C.img.length) (fun W => Below w2.heap.size w2 W) (fun W => W = w2) enter16 rfl rfl rfl (fun W hW => by rw [hW]; exact Below.refl _ _) (fun W hW => be2.trans (hW.mono be2.size)) (fun W hW => by rw [hW]; exact imb) ?_
          refine OE.conv rfl rfl rfl (fun W hW => cvt _ W (b2.on hW)) ?_
          refine OE.bin rfl rfl rfl rfl (fun W => str_eq_t _ W _ _) ?_
          refine OE.assign rfl rfl rfl ?_
          refine fun a ha W hW => EW.on (EW.ret (EW.returns Try.results6 rfl ⟨rfl, ?_⟩)) a ha
          rw [hW]
          exact hduo2.d.be
      · have z1 : ¬ (u : Int) < (n2 : Int) := fun h => gl1 (Int.ofNat_lt.1 h)
        refine EW.seq ?_
        refine EW.seq ?_
        refine EW.region ?_
        first | refine WL.move rfl rfl rfl ?_
        first | refine WL.move rfl rfl rfl ?_
        refine WL.len rfl rfl rfl (hlen2 _ _) ?_
        first | refine WL.bin rfl rfl rfl rfl (int_lt_t ‹_› _ _ _) ?_ | refine WL.bin rfl rfl rfl rfl (int_lt_f ‹_› _ _ _) ?_
        first | refine WL.move rfl rfl rfl ?_
        first | refine WL.move rfl rfl rfl ?_ | refine WL.skip _ rfl rfl rfl ?_
        first | refine WL.bin rfl rfl rfl rfl (int_lt_t ‹_› _ _ _) ?_ | refine WL.bin rfl rfl rfl rfl (int_lt_f ‹_› _ _ _) ?_ | refine WL.skip _ rfl rfl rfl ?_
        first | refine WL.pick rfl rfl rfl rfl ?_
        refine WL.done ?_
        refine EW.on ?_
        refine EW.cond_f rfl ?_
        refine EW.exit ?_
        repeat refine px_then ?_
        refine px_block ?_
        refine EW.on ?_
        refine EW.seq ?_
        obtain ⟨L9, M9, C, c, hp9, hq9, hduo0, k2, k3, k4, k5⟩ := hs2
        have bd : Below wr2.heap.size wr2 { wr2 with drawn := wr2.drawn + 1 } := below_drawn wr2
        have hduo := hduo0.below bd
        obtain ⟨wd, hwd⟩ : ∃ wd, { wr2 with drawn := wr2.drawn + 1 } = wd := ⟨_, rfl⟩
        rw [hwd] at hduo
        have ima := image_any hduo.d.dev
        rw [hp9, show (calD C c).img = C.img from rfl] at ima
        have b1 : Blk (wd.alloc (.cells (C.img.map byt).toArray 5)) wd.heap.size (C.img.map byt) 5 := Blk.new _ _ _
        have be1 : Below wd.heap.size wd (wd.alloc (.cells (C.img.map byt).toArray 5)) := below_new _ _
        have hduo1 := hduo.below be1
        obtain ⟨w1, hw1⟩ : ∃ w1, wd.alloc (.cells (C.img.map byt).toArray 5) = w1 := ⟨_, rfl⟩
        rw [hw1] at b1 be1 hduo1 ima
        have imb := image_any hduo1.c.dev
        rw [hq9] at imb
        have b2 : Blk (w1.alloc (.cells (C.img.map byt).toArray 5)) w1.heap.size (C.img.map byt) 5 := Blk.new _ _ _
        have be2 : Below w1.heap.size w1 (w1.alloc (.cells (C.img.map byt).toArray 5)) := below_new _ _
        have hduo2 := hduo1.below be2
        obtain ⟨w2, hw2⟩ : ∃ w2, w1.alloc (.cells (C.img.map byt).toArray 5) = w2 := ⟨_, rfl⟩
        rw [hw2] at b2 be2 hduo2 imb
        have cvt : ∀ (g : Nat) (W : World), Blk W g (C.img.map byt) 5 → (Go.convert 34 9 (.slice (some ⟨g, 0, none⟩) C.img.length C.img.length)).run Try.prog W = .ok (.string ⟨C.img.toArray⟩) W := fun g W h => Has.convert (.inr ⟨⟨g, 0, none⟩, C.img.length, rfl, Nat.le_refl _, fun i u hu => by rw [add_plain, h.cell, List.getElem?_map, hu]; rfl⟩)
        refine EW.ord [(0, false), (3, false), (1, true), (2, false), (4, true), (5, false), (6, false), (7, false)] (fun _ => True) (by kernel_rfl) rfl (by kernel_rfl) trivial ?_
        rw [hwd]
        simp only [ordOps, List.getD_cons_zero, List.getD_cons_succ]
        refine OE.move rfl rfl rfl ?_
        refine OE.move rfl rfl rfl ?_
        refine OE.call [.pointer (some ⟨p, 0, none⟩)] (.slice (some ⟨wd.heap.size, 0, none⟩) C.img.length C.img.length) (fun W => Below w1.heap.size w1 W) (fun W => W = w1) enter16 rfl rfl rfl (fun W hW => by rw [hW]; exact Below.refl _ _) (fun _ _ => trivial) (fun W hW => by rw [hW]; exact ima) ?_
        refine OE.conv rfl rfl rfl (fun W hW => cvt _ W (b1.on hW)) ?_
        refine OE.call [.pointer (some ⟨q, 0, none⟩)] (.slice (some ⟨w1.heap.size, 0, none⟩) C.img.length C.img.length) (fun W => Below w2.heap.size w2 W) (fun W => W = w2) enter16 rfl rfl rfl (fun W hW => by rw [hW]; exact Below.refl _ _) (fun W hW => be2.trans (hW.mono be2.size)) (fun W hW => by rw [hW]; exact imb) ?_
        refine OE.conv rfl rfl rfl (fun W hW => cvt _ W (b2.on hW)) ?_
        refine OE.bin rfl rfl rfl rfl (fun W => str_eq_t _ W _ _) ?_
        refine OE.assign rfl rfl rfl ?_
        refine fun a ha W hW => EW.on (EW.ret (EW.returns Try.results6 rfl ⟨rfl, ?_⟩)) a ha
        rw [hW]
        exact hduo2.d.be
  · have z1 : ¬ (t : Int) < (n : Int) := fun h => hl1 (Int.ofNat_lt.1 h)
    refine EW.seq ?_
    refine EW.seq ?_
    refine EW.region ?_
    first | refine WL.move rfl rfl rfl ?_
    first | refine WL.move rfl rfl rfl ?_
    refine WL.len rfl rfl rfl (hlen _ _) ?_
    first | refine WL.bin rfl rfl rfl rfl (int_lt_t ‹_› _ _ _) ?_ | refine WL.bin rfl rfl rfl rfl (int_lt_f ‹_› _ _ _) ?_
    first | refine WL.move rfl rfl rfl ?_
    first | refine WL.move rfl rfl rfl ?_ | refine WL.skip _ rfl rfl rfl ?_
    first | refine WL.bin rfl rfl rfl rfl (int_lt_t ‹_› _ _ _) ?_ | refine WL.bin rfl rfl rfl rfl (int_lt_f ‹_› _ _ _) ?_ | refine WL.skip _ rfl rfl rfl ?_
    first | refine WL.pick rfl rfl rfl rfl ?_
    refine WL.done ?_
    refine EW.on ?_
    refine EW.cond_f rfl ?_
    refine EW.exit ?_
    repeat refine px_then ?_
    refine px_block ?_
    refine EW.on ?_
    refine EW.seq ?_
    obtain ⟨L, D, hLp, hm, hDn, hDc, hDp, hDl⟩ := hs
    have hup := up_any hm.dev
    rw [hLp] at hup
    refine EW.region ?_
    first | refine WL.move rfl rfl rfl ?_
    refine WL.call [.pointer (some ⟨p, 0, none⟩)] enter25 rfl rfl rfl hup ?_
    rintro x w3 ⟨rfl, ht3, hd3⟩
    have m3 := hm.turn ht3 hd3
    have hfl := flush_ok m3.dev rfl (by show D.calls < _; omega) (by show 0 < _; decide) (by show ¬ 0 = 1; decide)
    rw [show (unkL L).p = p from hLp] at hfl
    clear ht3 hd3
    refine ⟨_, rfl, ?_⟩
    first | refine WL.assign rfl rfl rfl ?_
    refine WL.done ?_
    refine EW.on ?_
    refine EW.seq ?_
    refine EW.region ?_
    first | refine WL.move rfl rfl rfl ?_
    refine WL.call [.pointer (some ⟨p, 0, none⟩)] enter26 rfl rfl rfl hfl ?_
    rintro x w4 ⟨rfl, ht4, hd4⟩
    have m4 := m3.turn ht4 hd4
    have him := image_any m4.dev
    rw [show (dropL (unkL L)).p = p from hLp] at him
    have hilen := m4.dev.ok.len
    clear ht4 hd4
    refine ⟨_, rfl, ?_⟩
    first | refine WL.assign rfl rfl rfl ?_
    refine WL.done ?_
    refine EW.on ?_
    refine EW.seq ?_
    obtain ⟨img, himg⟩ : ∃ img, (flushD (upD D)).img = img := ⟨_, rfl⟩
    have hil : img.length = D.n * 512 := by rw [← himg]; exact hilen
    rw [himg] at him
    have b5 : Blk (w4.alloc (.cells (img.map byt).toArray 5)) w4.heap.size (img.map byt) 5 := Blk.new _ _ _
    have be5 : Below w4.heap.size w4 (w4.alloc (.cells (img.map byt).toArray 5)) := below_new _ _
    have m5 := m4.below be5
    obtain ⟨w5, hw5⟩ : ∃ w5, w4.alloc (.cells (img.map byt).toArray 5) = w5 := ⟨_, rfl⟩
    rw [hw5] at b5 be5 m5 him
    have hlo := load_ok (.slice (some ⟨w4.heap.size, 0, none⟩) img.length img.length) img D.n hm.dev.ok.n1 hm.dev.ok.n2 hil w5 (.inr ⟨⟨w4.heap.size, 0, none⟩, img.length, rfl, Nat.le_refl _, fun i u hu => by rw [add_plain, b5.cell, List.getElem?_map, hu]; rfl⟩)
    have m6 := Mine.newX (w := w) (X := w5) (W := newW w5 D.n img) (n := D.n) (img := img) m5.be rfl hm.dev.ok.n1 hm.dev.ok.n2 hil
    have du : Duo w (newW w5 D.n img) (dropL (unkL L)) (freshL (w5.heap.size + 2) w5.heap.size (w5.heap.size + 1)) (flushD (upD D)) (freshD D.n img) :=
      ⟨m5.below (newW_below w5 D.n img), m6, fun k h1 h2 => by
        have h3 := m5.dev.lt k h1
        have h4 := (Mine.new w5 D.n img hm.dev.ok.n1 hm.dev.ok.n2 hil).own k h2
        omega⟩
    have hfe : flushD (upD D) = calD (freshD D.n img) (D.calls + 1) := by rw [← himg]; rfl
    rw [hfe] at du
    obtain ⟨q, hq⟩ : ∃ q, w5.heap.size + 2 = q := ⟨_, rfl⟩
    have I2 : Img2 w (newW w5 D.n img) p q 0 := ⟨dropL (unkL L), freshL (w5.heap.size + 2) w5.heap.size (w5.heap.size + 1), freshD D.n img, D.calls + 1, hLp, hq, du, Nat.le_refl _, by omega, Nat.le_refl _, Nat.le_refl _⟩
    rw [hq] at hlo
    obtain ⟨w6, hw6⟩ : ∃ w6, newW w5 D.n img = w6 := ⟨_, rfl⟩
    rw [hw6] at hlo I2
    clear du m6 m5 b5 hfe hq
    refine EW.region ?_
    first | refine WL.move rfl rfl rfl ?_
    refine WL.call [.pointer (some ⟨p, 0, none⟩)] enter16 rfl rfl rfl him ?_
    rintro x w7 ⟨rfl, hz⟩
    rw [hz]; clear hz w7
    refine ⟨_, rfl, ?_⟩
    refine WL.call [.slice (some ⟨w4.heap.size, 0, none⟩) img.length img.length] enter27 rfl rfl rfl hlo ?_
    rintro x w7 ⟨rfl, hz⟩
    rw [hz]; clear hz w7
    refine ⟨_, rfl, ?_⟩
    first | refine WL.move rfl rfl rfl ?_
    first | refine WL.extract rfl rfl rfl (ext_2 _ _ _).1 ?_
    first | refine WL.extract rfl rfl rfl (ext_2 _ _ _).2 ?_
    first | refine WL.assign rfl rfl rfl ?_
    first | refine WL.assign rfl rfl rfl ?_
    refine WL.done ?_
    refine EW.on ?_
    refine EW.seq ?_
    refine EW.seq ?_
    refine EW.region ?_
    first | refine WL.move rfl rfl rfl ?_
    first | refine WL.bin rfl rfl rfl rfl (int_ne_f rfl _ _ _) ?_ | refine WL.bin rfl rfl rfl rfl (int_ne_t ‹_› _ _ _) ?_ | refine WL.bin rfl rfl rfl rfl (int_ne_f ‹_› _ _ _) ?_ | refine WL.bin rfl rfl rfl rfl (int_ne_t (by decide) _ _ _) ?_
    first | refine WL.move rfl rfl rfl ?_
    first | refine WL.move rfl rfl rfl ?_ | refine WL.skip _ rfl rfl rfl ?_
    first | refine WL.bin rfl rfl rfl rfl (int_ne_f rfl _ _ _) ?_ | refine WL.bin rfl rfl rfl rfl (int_ne_t ‹_› _ _ _) ?_ | refine WL.bin rfl rfl rfl rfl (int_ne_f ‹_› _ _ _) ?_ | refine WL.bin rfl rfl rfl rfl (int_ne_t (by decide) _ _ _) ?_ | refine WL.skip _ rfl rfl rfl ?_
    first | refine WL.pick rfl rfl rfl rfl ?_
    first | refine WL.move rfl rfl rfl ?_
    first | refine WL.move rfl rfl rfl ?_ | refine WL.skip _ rfl rfl rfl ?_
    first | refine WL.bin rfl rfl rfl rfl (int_ne_f rfl _ _ _) ?_ | refine WL.bin rfl rfl rfl rfl (int_ne_t ‹_› _ _ _) ?_ | refine WL.bin rfl rfl rfl rfl (int_ne_f ‹_› _ _ _) ?_ | refine WL.bin rfl rfl rfl rfl (int_ne_t (by decide) _ _ _) ?_ | refine WL.skip _ rfl rfl rfl ?_
    first | refine WL.pick rfl rfl rfl rfl ?_
    first | refine WL.move rfl rfl rfl ?_
    first | refine WL.move rfl rfl rfl ?_ | refine WL.skip _ rfl rfl rfl ?_
    first | refine WL.bin rfl rfl rfl rfl (ptr_eq_f _ _ _ _) ?_ | refine WL.skip _ rfl rfl rfl ?_
    first | refine WL.pick rfl rfl rfl rfl ?_
    refine WL.done ?_
    refine EW.on ?_
    refine EW.cond_f rfl ?_
    refine EW.skip ?_
    refine EW.on ?_
    refine EW.seq ?_
    refine EW.seq ?_
    refine EW.region ?_
    first | refine WL.assign rfl rfl rfl ?_
    refine WL.done ?_
    refine EW.on ?_
    refine EW.block ?_
    refine EW.loop (imE2 sv2 p q) (fun t W => t ≤ n2 ∧ t ≤ 200 ∧ Img2 w W p q t) (fun t => 200 - t) 0 [1, 5, 10, 12] rfl ⟨Nat.zero_le _, Nat.zero_le _, I2⟩ ?_
    clear hup hilen hil him hlo I2 hw6 hw5 be5 hm
    rintro u wr2 ⟨hun, hu2, hs2⟩
    show EW _ _ _ _ [(1, sv2), (5, .pointer (some ⟨p, 0, none⟩)), (10, .pointer (some ⟨q, 0, none⟩)), (12, .int .i64 (u : Int))] _
    by_cases gl1 : u < n2
    · by_cases gl2 : u < 200
      · have z1 : (u : Int) < (n2 : Int) := Int.ofNat_lt.2 gl1
        have z2 : (u : Int) < 200 := Int.ofNat_lt.2 gl2
        have tn := tn200 u gl2
        obtain ⟨s, hsx⟩ : ∃ s, ss2[u]? = some s := ⟨ss2[u]'(by rw [hn2]; exact gl1), List.getElem?_eq_getElem _⟩
        obtain ⟨ad, hix, hat, hok⟩ := hsc2.item u s hsx
        have BEr : Below w.heap.size w wr2 := by obtain ⟨_, _, _, _, _, _, h3, _⟩ := hs2; exact h3.d.be
        obtain ⟨x, y, hcf⟩ := img_two hs2 hu2 s hok
        refine EW.seq ?_
        refine EW.seq ?_
        refine EW.region ?_
        first | refine WL.move rfl rfl rfl ?_
        first | refine WL.move rfl rfl rfl ?_
        refine WL.len rfl rfl rfl (hlen2 _ _) ?_
        first | refine WL.bin rfl rfl rfl rfl (int_lt_t ‹_› _ _ _) ?_ | refine WL.bin rfl rfl rfl rfl (int_lt_f ‹_› _ _ _) ?_
        first | refine WL.move rfl rfl rfl ?_
        first | refine WL.move rfl rfl rfl ?_ | refine WL.skip _ rfl rfl rfl ?_
        first | refine WL.bin rfl rfl rfl rfl (int_lt_t ‹_› _ _ _) ?_ | refine WL.bin rfl rfl rfl rfl (int_lt_f ‹_› _ _ _) ?_ | refine WL.skip _ rfl rfl rfl ?_
        first | refine WL.pick rfl rfl rfl rfl ?_
        refine WL.done ?_
        refine EW.on ?_
        refine EW.cond_t rfl ?_
        refine EW.skip ?_
        refine EW.on ?_
        refine EW.seq ?_
        refine EW.block ?_
        refine EW.seq ?_
        refine EW.region ?_
        first | refine WL.move rfl rfl rfl ?_
        first | refine WL.move rfl rfl rfl ?_
        first | refine WL.move rfl rfl rfl ?_
        refine WL.index rfl rfl rfl rfl (hix _) ?_
        refine WL.load rfl rfl rfl (run_loadA (hat.below BEr) Try.underlying53 rfl (info53 _)) ?_
        refine WL.call [.pointer (some ⟨p, 0, none⟩), .agg (stC s).toArray] enter21 rfl rfl rfl hcf ?_
        rintro x w8 ⟨rfl, be8, hcg⟩
        refine ⟨_, rfl, ?_⟩
        first | refine WL.move rfl rfl rfl ?_
        first | refine WL.extract rfl rfl rfl (ext_2 _ _ _).1 ?_
        first | refine WL.extract rfl rfl rfl (ext_2 _ _ _).2 ?_
        first | refine WL.assign rfl rfl rfl ?_
        first | refine WL.assign rfl rfl rfl ?_
        refine WL.done ?_
        refine EW.on ?_
        refine EW.seq ?_
        refine EW.region ?_
        first | refine WL.move rfl rfl rfl ?_
        first | refine WL.move rfl rfl rfl ?_
        first | refine WL.move rfl rfl rfl ?_
        refine WL.index rfl rfl rfl rfl (hix _) ?_
        refine WL.load rfl rfl rfl (run_loadA (hat.below be8) Try.underlying53 rfl (info53 _)) ?_
        refine WL.call [.pointer (some ⟨q, 0, none⟩), .agg (stC s).toArray] enter21 rfl rfl rfl hcg ?_
        rintro x w9 ⟨rfl, hI9⟩
        refine ⟨_, rfl, ?_⟩
        first | refine WL.move rfl rfl rfl ?_
        first | refine WL.extract rfl rfl rfl (ext_2 _ _ _).1 ?_
        first | refine WL.extract rfl rfl rfl (ext_2 _ _ _).2 ?_
        first | refine WL.assign rfl rfl rfl ?_
        first | refine WL.assign rfl rfl rfl ?_
        refine WL.done ?_
        refine EW.on ?_
        refine EW.seq ?_
        obtain ⟨L9, M9, C, c, hp9, hq9, hduo, k2, k3, k4, k5⟩ := hI9
        have hda := down_any hduo.d.dev
        have hdb := down_any hduo.c.dev
        rw [hp9, show (calD C c).down = C.down from rfl] at hda
        rw [hq9] at hdb
        have ca := cache_any hduo.d.dev
        rw [hp9, show (calD C c).pen = C.pen from rfl] at ca
        refine EW.region ?_
        first | refine WL.move rfl rfl rfl ?_
        first | refine WL.move rfl rfl rfl ?_
        first | refine WL.bin rfl rfl rfl rfl (int_ne_f rfl _ _ _) ?_ | refine WL.bin rfl rfl rfl rfl (int_ne_t ‹_› _ _ _) ?_ | refine WL.bin rfl rfl rfl rfl (int_ne_f ‹_› _ _ _) ?_ | refine WL.bin rfl rfl rfl rfl (int_ne_t (by decide) _ _ _) ?_
        first | refine WL.move rfl rfl rfl ?_
        first | refine WL.move rfl rfl rfl ?_ | refine WL.skip _ rfl rfl rfl ?_
        first | refine WL.move rfl rfl rfl ?_ | refine WL.skip _ rfl rfl rfl ?_
        first | refine WL.bin rfl rfl rfl rfl (str_ne_f _ _ _ _) ?_ | refine WL.skip _ rfl rfl rfl ?_
        first | refine WL.pick rfl rfl rfl rfl ?_
        first | refine WL.move rfl rfl rfl ?_
        first | refine WL.move rfl rfl rfl ?_ | refine WL.skip _ rfl rfl rfl ?_
        refine WL.call [.pointer (some ⟨p, 0, none⟩)] enter22 rfl rfl rfl hda ?_
        rintro x w10 ⟨rfl, hz⟩
        rw [hz]; clear hz w10
        refine ⟨_, rfl, ?_⟩
        first | refine WL.move rfl rfl rfl ?_ | refine WL.skip _ rfl rfl rfl ?_
        refine WL.call [.pointer (some ⟨q, 0, none⟩)] enter22 rfl rfl rfl hdb ?_
        rintro x w10 ⟨rfl, hz⟩
        rw [hz]; clear hz w10
        refine ⟨_, rfl, ?_⟩
        refine WL.bin rfl rfl rfl rfl (bool_ne_f _ _ _ _) ?_
        first | refine WL.pick rfl rfl rfl rfl ?_
        first | refine WL.move rfl rfl rfl ?_
        first | refine WL.move rfl rfl rfl ?_ | refine WL.skip _ rfl rfl rfl ?_
        refine WL.call [.pointer (some ⟨p, 0, none⟩)] enter24 rfl rfl rfl ca ?_
        rintro x w10 ⟨rfl, be10, _, gs1, pn1⟩
        have duo10 := hduo.below be10
        have cb := cache_any duo10.c.dev
        rw [hq9] at cb
        refine ⟨_, rfl, ?_⟩
        first | refine WL.move rfl rfl rfl ?_ | refine WL.skip _ rfl rfl rfl ?_
        refine WL.call [.pointer (some ⟨q, 0, none⟩)] enter24 rfl rfl rfl cb ?_
        rintro x w11 ⟨rfl, be11, _, gs2, pn2⟩
        have duo11 := duo10.below be11
        have hsame := same_yes _ _ gs1 gs2 C.pen hduo.c.dev.ok.few (fun x hx => (hduo.c.dev.ok.sec x hx).2) w11 (pn1.below be11) pn2
        refine ⟨_, rfl, ?_⟩
        refine WL.call [.slice (some ⟨w9.heap.size, 0, none⟩) C.pen.length C.pen.length, .slice (some ⟨w10.heap.size, 0, none⟩) C.pen.length C.pen.length] enter23 rfl rfl rfl hsame ?_
        rintro x w12 ⟨rfl, be12⟩
        refine ⟨_, rfl, ?_⟩
        first | refine WL.un rfl rfl rfl (not_t _ _) ?_ | refine WL.skip _ rfl rfl rfl ?_
        first | refine WL.pick rfl rfl rfl rfl ?_
        refine WL.done ?_
        refine EW.on ?_
        refine EW.cond_f rfl ?_
        refine EW.skip ?_
        refine pn_block ?_
        refine EW.on ?_
        refine EW.region ?_
        first | refine WL.move rfl rfl rfl ?_
        first | refine WL.bin rfl rfl rfl rfl (int_add ‹_› _ _ _) ?_
        first | refine WL.assign rfl rfl rfl ?_
        refine WL.done ?_
        exact EW.again (u + 1) [1, 5, 10, 12] rfl ⟨gl1, gl2, L9, M9, C, c, hp9, hq9, duo11.below be12, k2, k3, k4, k5⟩ (ms200 u gl2)
      · have z1 : (u : Int) < (n2 : Int) := Int.ofNat_lt.2 gl1
        have z2 : ¬ (u : Int) < 200 := fun h => gl2 (Int.ofNat_lt.1 h)
        refine EW.seq ?_
        refine EW.seq ?_
        refine EW.region ?_
        first | refine WL.move rfl rfl rfl ?_
        first | refine WL.move rfl rfl rfl ?_
        refine WL.len rfl rfl rfl (hlen2 _ _) ?_
        first | refine WL.bin rfl rfl rfl rfl (int_lt_t ‹_› _ _ _) ?_ | refine WL.bin rfl rfl rfl rfl (int_lt_f ‹_› _ _ _) ?_
        first | refine WL.move rfl rfl rfl ?_
        first | refine WL.move rfl rfl rfl ?_ | refine WL.skip _ rfl rfl rfl ?_
        first | refine WL.bin rfl rfl rfl rfl (int_lt_t ‹_› _ _ _) ?_ | refine WL.bin rfl rfl rfl rfl (int_lt_f ‹_› _ _ _) ?_ | refine WL.skip _ rfl rfl rfl ?_
        first | refine WL.pick rfl rfl rfl rfl ?_
        refine WL.done ?_
        refine EW.on ?_
        refine EW.cond_f rfl ?_
        refine EW.exit ?_
        repeat refine px_then ?_
        refine px_block ?_
        refine EW.on ?_
        refine EW.seq ?_
        obtain ⟨L9, M9, C, c, hp9, hq9, hduo0, k2, k3, k4, k5⟩ := hs2
        have bd : Below wr2.heap.size wr2 { wr2 with drawn := wr2.drawn + 1 } := below_drawn wr2
        have hduo := hduo0.below bd
        obtain ⟨wd, hwd⟩ : ∃ wd, { wr2 with drawn := wr2.drawn + 1 } = wd := ⟨_, rfl⟩
        rw [hwd] at hduo
        have ima := image_any hduo.d.dev
        rw [hp9, show (calD C c).img = C.img from rfl] at ima
        have b1 : Blk (wd.alloc (.cells (C.img.map byt).toArray 5)) wd.heap.size (C.img.map byt) 5 := Blk.new _ _ _
        have be1 : Below wd.heap.size wd (wd.alloc (.cells (C.img.map byt).toArray 5)) := below_new _ _
        have hduo1 := hduo.below be1
        obtain ⟨w1, hw1⟩ : ∃ w1, wd.alloc (.cells (C.img.map byt).toArray 5) = w1 := ⟨_, rfl⟩
        rw [hw1] at b1 be1 hduo1 ima
        have imb := image_any hduo1.c.dev
        rw [hq9] at imb
        have b2 : Blk (w1.alloc (.cells (C.img.map byt).toArray 5)) w1.heap.size (C.img.map byt) 5 := Blk.new _ _ _
        have be2 : Below w1.heap.size w1 (w1.alloc (.cells (C.img.map byt).toArray 5)) := below_new _ _
        have hduo2 := hduo1.below be2
        obtain ⟨w2, hw2⟩ : ∃ w2, w1.alloc (.cells (C.img.map byt).toArray 5) = w2 := ⟨_, rfl⟩
        rw [hw2] at b2 be2 hduo2 imb
        have cvt : ∀ (g : Nat) (W : World), Blk W g (C.img.map byt) 5 → (Go.convert 34 9 (.slice (some ⟨g, 0, none⟩) C.img.length C.img.length)).run Try.prog W = .ok (.string ⟨C.img.toArray⟩) W := fun g W h => Has.convert (.inr ⟨⟨g, 0, none⟩, C.img.length, rfl, Nat.le_refl _, fun i u hu => by rw [add_plain, h.cell, List.getElem?_map, hu]; rfl⟩)
        refine EW.ord [(0, false), (3, false), (1, true), (2, false), (4, true), (5, false), (6, false), (7, false)] (fun _ => True) (by kernel_rfl) rfl (by kernel_rfl) trivial ?_
        rw [hwd]
        simp only [ordOps, List.getD_cons_zero, List.getD_cons_succ]
        refine OE.move rfl rfl rfl ?_
        refine OE.move rfl rfl rfl ?_
        refine OE.call [.pointer (some ⟨p, 0, none⟩)] (.slice (some ⟨wd.heap.size, 0, none⟩) C.img.length C.img.length) (fun W => Below w1.heap.size w1 W) (fun W => W = w1) enter16 rfl rfl rfl (fun W hW => by rw [hW]; exact Below.refl _ _) (fun _ _ => trivial) (fun W hW => by rw [hW]; exact ima) ?_
        refine OE.conv rfl rfl rfl (fun W hW => cvt _ W (b1.on hW)) ?_
        refine OE.call [.pointer (some ⟨q, 0, none⟩)] (.slice (some ⟨w1.heap.size, 0, none⟩) C.img.length C.img.length) (fun W => Below w2.heap.size w2 W) (fun W => W = w2) enter16 rfl rfl rfl (fun W hW => by rw [hW]; exact Below.refl _ _) (fun W hW => be2.trans (hW.mono be2.size)) (fun W hW => by rw [hW]; exact imb) ?_
        refine OE.conv rfl rfl rfl (fun W hW => cvt _ W (b2.on hW)) ?_
        refine OE.bin rfl rfl rfl rfl (fun W => str_eq_t _ W _ _) ?_
        refine OE.assign rfl rfl rfl ?_
        refine fun a ha W hW => EW.on (EW.ret (EW.returns Try.results6 rfl ⟨rfl, ?_⟩)) a ha
        rw [hW]
        exact hduo2.d.be
    · have z1 : ¬ (u : Int) < (n2 : Int) := fun h => gl1 (Int.ofNat_lt.1 h)
      refine EW.seq ?_
      refine EW.seq ?_
      refine EW.region ?_
      first | refine WL.move rfl rfl rfl ?_
      first | refine WL.move rfl rfl rfl ?_
      refine WL.len rfl rfl rfl (hlen2 _ _) ?_
      first | refine WL.bin rfl rfl rfl rfl (int_lt_t ‹_› _ _ _) ?_ | refine WL.bin rfl rfl rfl rfl (int_lt_f ‹_› _ _ _) ?_
      first | refine WL.move rfl rfl rfl ?_
      first | refine WL.move rfl rfl rfl ?_ | refine WL.skip _ rfl rfl rfl ?_
      first | refine WL.bin rfl rfl rfl rfl (int_lt_t ‹_› _ _ _) ?_ | refine WL.bin rfl rfl rfl rfl (int_lt_f ‹_› _ _ _) ?_ | refine WL.skip _ rfl rfl rfl ?_
      first | refine WL.pick rfl rfl rfl rfl ?_
      refine WL.done ?_
      refine EW.on ?_
      refine EW.cond_f rfl ?_
      refine EW.exit ?_
      repeat refine px_then ?_
      refine px_block ?_
      refine EW.on ?_
      refine EW.seq ?_
      obtain ⟨L9, M9, C, c, hp9, hq9, hduo0, k2, k3, k4, k5⟩ := hs2
      have bd : Below wr2.heap.size wr2 { wr2 with drawn := wr2.drawn + 1 } := below_drawn wr2
      have hduo := hduo0.below bd
      obtain ⟨wd, hwd⟩ : ∃ wd, { wr2 with drawn := wr2.drawn + 1 } = wd := ⟨_, rfl⟩
      rw [hwd] at hduo
      have ima := image_any hduo.d.dev
      rw [hp9, show (calD C c).img = C.img from rfl] at ima
      have b1 : Blk (wd.alloc (.cells (C.img.map byt).toArray 5)) wd.heap.size (C.img.map byt) 5 := Blk.new _ _ _
      have be1 : Below wd.heap.size wd (wd.alloc (.cells (C.img.map byt).toArray 5)) := below_new _ _
      have hduo1 := hduo.below be1
      obtain ⟨w1, hw1⟩ : ∃ w1, wd.alloc (.cells (C.img.map byt).toArray 5) = w1 := ⟨_, rfl⟩
      rw [hw1] at b1 be1 hduo1 ima
      have imb := image_any hduo1.c.dev
      rw [hq9] at imb
      have b2 : Blk (w1.alloc (.cells (C.img.map byt).toArray 5)) w1.heap.size (C.img.map byt) 5 := Blk.new _ _ _
      have be2 : Below w1.heap.size w1 (w1.alloc (.cells (C.img.map byt).toArray 5)) := below_new _ _
      have hduo2 := hduo1.below be2
      obtain ⟨w2, hw2⟩ : ∃ w2, w1.alloc (.cells (C.img.map byt).toArray 5) = w2 := ⟨_, rfl⟩
      rw [hw2] at b2 be2 hduo2 imb
      have cvt : ∀ (g : Nat) (W : World), Blk W g (C.img.map byt) 5 → (Go.convert 34 9 (.slice (some ⟨g, 0, none⟩) C.img.length C.img.length)).run Try.prog W = .ok (.string ⟨C.img.toArray⟩) W := fun g W h => Has.convert (.inr ⟨⟨g, 0, none⟩, C.img.length, rfl, Nat.le_refl _, fun i u hu => by rw [add_plain, h.cell, List.getElem?_map, hu]; rfl⟩)
      refine EW.ord [(0, false), (3, false), (1, true), (2, false), (4, true), (5, false), (6, false), (7, false)] (fun _ => True) (by kernel_rfl) rfl (by kernel_rfl) trivial ?_
      rw [hwd]
      simp only [ordOps, List.getD_cons_zero, List.getD_cons_succ]
      refine OE.move rfl rfl rfl ?_
      refine OE.move rfl rfl rfl ?_
      refine OE.call [.pointer (some ⟨p, 0, none⟩)] (.slice (some ⟨wd.heap.size, 0, none⟩) C.img.length C.img.length) (fun W => Below w1.heap.size w1 W) (fun W => W = w1) enter16 rfl rfl rfl (fun W hW => by rw [hW]; exact Below.refl _ _) (fun _ _ => trivial) (fun W hW => by rw [hW]; exact ima) ?_
      refine OE.conv rfl rfl rfl (fun W hW => cvt _ W (b1.on hW)) ?_
      refine OE.call [.pointer (some ⟨q, 0, none⟩)] (.slice (some ⟨w1.heap.size, 0, none⟩) C.img.length C.img.length) (fun W => Below w2.heap.size w2 W) (fun W => W = w2) enter16 rfl rfl rfl (fun W hW => by rw [hW]; exact Below.refl _ _) (fun W hW => be2.trans (hW.mono be2.size)) (fun W hW => by rw [hW]; exact imb) ?_
      refine OE.conv rfl rfl rfl (fun W hW => cvt _ W (b2.on hW)) ?_
      refine OE.bin rfl rfl rfl rfl (fun W => str_eq_t _ W _ _) ?_
      refine OE.assign rfl rfl rfl ?_
      refine fun a ha W hW => EW.on (EW.ret (EW.returns Try.results6 rfl ⟨rfl, ?_⟩)) a ha
      rw [hW]
      exact hduo2.d.be
end Go.Proofs.Ythfcabhelldokaa
