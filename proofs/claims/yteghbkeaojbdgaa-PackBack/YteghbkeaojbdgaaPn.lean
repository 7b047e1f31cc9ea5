import Derived.Test.YteghbkeaojbdgaaPm
set_option linter.unusedVariables false
set_option linter.unusedSimpArgs false
namespace Go.Proofs.Yteghbkeaojbdgaa
open Go.RowKit

set_option maxRecDepth 100000 in
set_option maxHeartbeats 4000000 in
theorem sorted_any (v : Value) (ls : List RV) (w : World) (hL : Ls w v ls) : Calls Try.prog 11 #[v] w fun e w' => ∃ v' rs, e = .returned v' ∧ Ls w' v' rs ∧ rs.map RV.d = sortD ((ls.map RV.d).take (min 60 ls.length)) ∧ Fresh w v' ∧ Below w.heap.size w w' := by
  refine calls_of_args [v] Try.func11 rfl 74 Try.ntmps11 (by show 1 ≤ 74; decide) ?_
  refine EW.seq ?_
  refine EW.region ?_
  first | refine WL.assign rfl rfl rfl ?_
  refine WL.done ?_
  refine EW.on ?_
  refine EW.seq ?_
  refine EW.region ?_
  first | refine WL.assign rfl rfl rfl ?_
  refine WL.done ?_
  refine EW.on ?_
  refine EW.seq ?_
  refine EW.seq ?_
  refine EW.region ?_
  first | refine WL.assign rfl rfl rfl ?_
  refine WL.done ?_
  refine EW.on ?_
  refine EW.block ?_
  refine EW.loop (soE v) (SoR w ls) (fun z => 60 - z.1) (0, .slice none 0 0, []) [0, 3, 4] rfl ⟨Below.refl _ _, Nat.zero_le _, Nat.zero_le _, Ls.nil _, rfl, fun _ h => (by cases h)⟩ ?_
  rintro ⟨i, vo, rs⟩ wo ⟨hbe, hil, hi6, ho, hd, hfr⟩
  dsimp only at hil hi6 ho hd
  show EW _ _ _ _ [(0, v), (3, vo), (4, .int .i64 (i : Int))] _
  refine EW.seq ?_
  refine EW.seq ?_
  rcases (show (i < ls.length ∧ i < 60) ∨ (i < ls.length ∧ ¬ i < 60) ∨ ¬ i < ls.length by omega) with ⟨h1, h2⟩ | ⟨h1, h2⟩ | h1
  · have z1 : (i : Int) < (ls.length : Int) := by omega
    have z2 : (i : Int) < 60 := by omega
    have inx : IntKind.i64.wrap ((i : Int) + 1) = ((i + 1 : Nat) : Int) := by rw [IntKind.wrap_i64]; omega
    obtain ⟨z, hz⟩ : ∃ z, ls[i]? = some z := ⟨_, List.getElem?_eq_getElem h1⟩
    have hLo := hL.below hbe
    obtain ⟨adl, il, al⟩ := hLo.item hz
    have okz := hLo.ok z (List.mem_of_getElem? hz)
    have hrl : rs.length ≤ 60 := by
      have e1 := congrArg List.length hd
      have e2 := sortD_len ((ls.map RV.d).take i)
      rw [List.length_map] at e1
      rw [List.length_take] at e2
      omega
    have hsr : Srt (rs.map RV.d) := by rw [hd]; exact sortD_srt _
    refine EW.region ?_
    first | refine WL.move rfl rfl rfl ?_
    first | refine WL.move rfl rfl rfl ?_
    refine WL.len rfl rfl rfl (hL.len _ _) ?_
    first | refine WL.bin rfl rfl rfl rfl (int_lt_t ‹_› _ _ _) ?_ | refine WL.bin rfl rfl rfl rfl (int_lt_f ‹_› _ _ _) ?_ | refine WL.bin rfl rfl rfl rfl (int_lt_d _ _ _ _ _) ?_
    first | refine WL.move rfl rfl rfl ?_
    first | refine WL.move rfl rfl rfl ?_ | refine WL.skip _ rfl rfl rfl ?_
    first | refine WL.bin rfl rfl rfl rfl (int_lt_t ‹_› _ _ _) ?_ | refine WL.bin rfl rfl rfl rfl (int_lt_f ‹_› _ _ _) ?_ | refine WL.bin rfl rfl rfl rfl (int_lt_d _ _ _ _ _) ?_ | refine WL.skip _ rfl rfl rfl ?_
    first | refine WL.pick rfl rfl rfl rfl ?_
    refine WL.done ?_
    refine EW.on ?_
    refine EW.cond_t rfl ?_
    refine EW.skip ?_
    refine EW.on ?_
    refine EW.seq ?_
    refine EW.block ?_
    refine EW.seq ?_
    refine EW.region ?_
    first | refine WL.move rfl rfl rfl ?_
    first | refine WL.move rfl rfl rfl ?_
    refine WL.index rfl rfl rfl rfl (il _) ?_
    refine WL.load rfl rfl rfl (ldA al) ?_
    refine WL.call [z.val] enter12 rfl rfl rfl (right_any z _ okz) ?_
    rintro _ wa ⟨x, rfl, okx, hxd, bea⟩
    refine ⟨_, rfl, ?_⟩
    obtain ⟨wb, qr, rb, bb, beb, hqr⟩ := new32 wa
    refine WL.new rfl rfl rb ?_
    obtain ⟨w1, sb1, br1, xb⟩ := st32 bb rfl (okx.below beb).one
    refine WL.store rfl rfl rfl sb1 ?_
    have bab : Below wa.heap.size wa w1 := beb.trans (xb.below (fun k hk e => by omega) beb.size)
    have be1 := bea.trans (bab.mono bea.size)
    have okx1 := okx.below bab
    have ho1 := ho.below be1
    refine WL.done ?_
    refine EW.on ?_
    refine EW.seq ?_
    refine EW.region ?_
    first | refine WL.assign rfl rfl rfl ?_
    refine WL.done ?_
    refine EW.on ?_
    refine EW.seq ?_
    refine EW.region ?_
    first | refine WL.assign rfl rfl rfl ?_
    refine WL.done ?_
    refine EW.on ?_
    refine EW.seq ?_
    refine EW.seq ?_
    refine EW.region ?_
    first | refine WL.assign rfl rfl rfl ?_
    refine WL.done ?_
    refine EW.on ?_
    refine EW.block ?_
    refine EW.loop (siE v vo i qr) (SiR w1 (rs.map RV.d) x.d) (fun z => rs.length - z.1) (0, .slice none 0 0, [], false) [0, 3, 4, 5, 6, 7, 8] rfl ⟨Below.refl _ _, Nat.zero_le _, Ol.nil _ _, rfl, rfl⟩ ?_
    rintro ⟨k, vn, ns, dn⟩ wi ⟨bei, hkl, oi, hni, hdn⟩
    dsimp only at hkl oi hni hdn
    rw [List.length_map] at hkl
    have li : ns.length ≤ 62 := by
      have h1 := congrArg List.length hni
      have h2 := insK_len (rs.map RV.d) x.d k
      rw [List.length_map] at h1 h2
      omega
    show EW _ _ _ _ [(0, v), (3, vo), (4, .int .i64 (i : Int)), (5, .pointer (some ⟨qr, 0, none⟩)), (6, vn), (7, .bool dn), (8, .int .i64 (k : Int))] _
    refine EW.seq ?_
    refine EW.seq ?_
    refine EW.region ?_
    first | refine WL.move rfl rfl rfl ?_
    first | refine WL.move rfl rfl rfl ?_
    refine WL.len rfl rfl rfl (ho.len _ _) ?_
    first | refine WL.bin rfl rfl rfl rfl (int_lt_t ‹_› _ _ _) ?_ | refine WL.bin rfl rfl rfl rfl (int_lt_f ‹_› _ _ _) ?_ | refine WL.bin rfl rfl rfl rfl (int_lt_d _ _ _ _ _) ?_
    refine WL.done ?_
    refine EW.on ?_
    refine EW.cond_d rfl (fun h27 => ?_) (fun h27 => ?_)
    · refine EW.skip ?_
      refine EW.on ?_
      refine EW.seq ?_
      refine EW.block ?_
      refine EW.seq ?_
      refine EW.seq ?_
      have hk : k < rs.length := by omega
      have kn : IntKind.i64.wrap ((k : Int) + 1) = ((k + 1 : Nat) : Int) := by rw [IntKind.wrap_i64]; omega
      obtain ⟨y, hy⟩ : ∃ y, rs[k]? = some y := ⟨_, List.getElem?_eq_getElem hk⟩
      obtain ⟨ady, iy, ay1⟩ := ho1.item hy
      have oky1 := ho1.ok y (List.mem_of_getElem? hy)
      rcases (show k < placeN (rs.map RV.d) x.d ∨ (k = placeN (rs.map RV.d) x.d ∧ isAt (rs.map RV.d) x.d = true) ∨ (k = placeN (rs.map RV.d) x.d ∧ isAt (rs.map RV.d) x.d = false) ∨ placeN (rs.map RV.d) x.d < k by
          rcases Nat.lt_trichotomy k (placeN (rs.map RV.d) x.d) with e | e | e
          · exact .inl e
          · cases hb : isAt (rs.map RV.d) x.d
            · exact .inr (.inr (.inl ⟨e, rfl⟩))
            · exact .inr (.inl ⟨e, rfl⟩)
          · exact .inr (.inr (.inr e))) with hcase | hcase | hcase | hcase
      · obtain rfl : dn = false := by rw [hdn]; exact decide_eq_false (by omega)
        have hya := place_lt (rs.map RV.d) x.d k y.d hcase (d_at hy)
        refine EW.ordB [(0, 0, 0), (1, 0, 0), (2, 0, 0), (3, 0, 0), (4, 0, 0), (5, 0, 0), (6, 0, 1), (7, 0, 1), (8, 1, 1), (9, 0, 0), (10, 0, 0)] (by kernel_rfl) rfl (by kernel_rfl) ?_
        simp only [opsZ, List.getD_cons_zero, List.getD_cons_succ]
        first | refine ZE.move rfl rfl rfl rfl sz0 ?_
        first | refine ZE.un rfl rfl rfl rfl sz0 (fun W => not_t _ W) ?_
        first | refine ZE.move rfl rfl rfl rfl sz0 ?_
        first | refine ZE.move rfl rfl rfl rfl sz0 ?_ | refine ZE.skip rfl rfl rfl sz0 ?_
        first | refine ZE.move rfl rfl rfl rfl sz0 ?_ | refine ZE.skip rfl rfl rfl sz0 ?_
        first | refine ZE.index rfl rfl rfl rfl rfl sz0 (fun W => iy W) ?_ | refine ZE.skip rfl rfl rfl sz0 ?_
        first | refine ZE.load rfl rfl rfl rfl sz1 (fun W hW => ldA ((ay1.below bei).below (sb_of hW))) ?_ | refine ZE.load rfl rfl rfl rfl sz1 (fun W hW => ld32 ((br1.on bei).on (sb_of hW))) ?_ | refine ZE.skip rfl rfl rfl sz1 ?_
        first | refine ZE.load rfl rfl rfl rfl sz1 (fun W hW => ldA ((ay1.below bei).below (sb_of hW))) ?_ | refine ZE.load rfl rfl rfl rfl sz1 (fun W hW => ld32 ((br1.on bei).on (sb_of hW))) ?_ | refine ZE.skip rfl rfl rfl sz1 ?_
        refine ZE.callB [y.val, x.val] enter14 rfl rfl rfl (fun W h => .inr h) (fun W hW => ahead_t hya W ((oky1.below bei).below hW) ((okx1.below bei).below hW)) ?_
        first | refine ZE.un rfl rfl rfl rfl sz0 (fun W => not_t _ W) ?_ | refine ZE.skip rfl rfl rfl sz0 ?_
        first | refine ZE.pick rfl rfl rfl rfl rfl sz0 ?_
        intro w11 h11
        have o11 := oi.below h11
        have be11 := bei.trans (h11.mono bei.size)
        have l11 := li
        refine EW.on ?_
        refine EW.cond_f rfl ?_
        refine EW.skip ?_
        refine EW.on ?_
        refine EW.seq ?_
        refine EW.ordB [(0, 0, 0), (1, 0, 0), (2, 0, 0), (3, 0, 1), (4, 0, 1), (5, 1, 1), (6, 0, 0), (7, 0, 1), (8, 0, 0), (9, 0, 0), (10, 0, 0), (11, 0, 1), (12, 0, 0), (13, 0, 0)] (by kernel_rfl) rfl (by kernel_rfl) ?_
        simp only [opsZ, List.getD_cons_zero, List.getD_cons_succ]
        first | refine ZE.move rfl rfl rfl rfl sz0 ?_
        first | refine ZE.move rfl rfl rfl rfl sz0 ?_
        first | refine ZE.index rfl rfl rfl rfl rfl sz0 (fun W => iy W) ?_
        first | refine ZE.load rfl rfl rfl rfl sz1 (fun W hW => ldA ((ay1.below be11).below (sb_of hW))) ?_ | refine ZE.load rfl rfl rfl rfl sz1 (fun W hW => ld32 ((br1.on be11).on (sb_of hW))) ?_
        first | refine ZE.load rfl rfl rfl rfl sz1 (fun W hW => ldA ((ay1.below be11).below (sb_of hW))) ?_ | refine ZE.load rfl rfl rfl rfl sz1 (fun W hW => ld32 ((br1.on be11).on (sb_of hW))) ?_
        refine ZE.callB [y.val, x.val] enter14 rfl rfl rfl (fun W h => .inr h) (fun W hW => ahead_t hya W ((oky1.below be11).below hW) ((okx1.below be11).below hW)) ?_
        first | refine ZE.move rfl rfl rfl rfl sz0 ?_
        first | refine ZE.load rfl rfl rfl rfl sz1 (fun W hW => ldA ((ay1.below be11).below (sb_of hW))) ?_ | refine ZE.load rfl rfl rfl rfl sz1 (fun W hW => ld32 ((br1.on be11).on (sb_of hW))) ?_ | refine ZE.skip rfl rfl rfl sz1 ?_
        first | refine ZE.move rfl rfl rfl rfl sz0 ?_ | refine ZE.skip rfl rfl rfl sz0 ?_
        first | refine ZE.move rfl rfl rfl rfl sz0 ?_ | refine ZE.skip rfl rfl rfl sz0 ?_
        first | refine ZE.index rfl rfl rfl rfl rfl sz0 (fun W => iy W) ?_ | refine ZE.skip rfl rfl rfl sz0 ?_
        first | refine ZE.load rfl rfl rfl rfl sz1 (fun W hW => ldA ((ay1.below be11).below (sb_of hW))) ?_ | refine ZE.load rfl rfl rfl rfl sz1 (fun W hW => ld32 ((br1.on be11).on (sb_of hW))) ?_ | refine ZE.skip rfl rfl rfl sz1 ?_
        refine ZE.skip rfl rfl rfl sz0 ?_
        first | refine ZE.pick rfl rfl rfl rfl rfl sz0 ?_
        intro w14 h14
        have o14 := o11.below h14
        have be14 := be11.trans (h14.mono be11.size)
        have l14 : (ns).length ≤ 63 := by omega
        refine EW.on ?_
        refine EW.cond_t rfl ?_
        refine EW.region ?_
        first | refine WL.move rfl rfl rfl ?_
        first | refine WL.move rfl rfl rfl ?_
        first | refine WL.move rfl rfl rfl ?_
        refine WL.index rfl rfl rfl rfl (iy _) ?_
        refine WL.load rfl rfl rfl (ldA (ay1.below be14)) ?_
        have nn15 := below_new w14 (.cells y.cs.toArray 32)
        obtain ⟨v15, w15, a1, o15, x15⟩ := (o14.below nn15).push (by have := nn15.size; have := be14.size; omega) (by have := l14; omega) y w14.heap.size 1 (Blk.new _ _ _) ((oky1.below be14).below nn15) (fun k hk => oky1.off (o14.base k hk)) 23
        have be15 : Below w1.heap.size w1 w15 := (be14.trans (nn15.mono be14.size)).trans (x15.below (fun k hk e => by have := o14.base k e; omega) (by have := nn15.size; have := be14.size; omega))
        refine WL.bslN [(0, y.val)] rfl rfl rfl (bsl23 y _) ?_
        refine WL.app rfl rfl rfl rfl a1 ?_
        first | refine WL.assign rfl rfl rfl ?_
        refine WL.done ?_
        refine pn_block ?_
        refine EW.on ?_
        refine EW.region ?_
        first | refine WL.move rfl rfl rfl ?_
        first | refine WL.bin rfl rfl rfl rfl (int_add ‹_› _ _ _) ?_
        first | refine WL.assign rfl rfl rfl ?_
        refine WL.done ?_
        refine EW.again (E := siE v vo i qr) (R := SiR w1 (rs.map RV.d) x.d) (m := fun z => rs.length - z.1) (x := (k, vn, ns, false)) (k + 1, v15, ns ++ [y], false) [0, 3, 4, 5, 6, 7, 8] rfl ⟨be15, by show k + 1 ≤ _; rw [List.length_map]; omega, o15, ?_, ?_⟩ (by show rs.length - (k + 1) < rs.length - k; omega)
        · show (ns ++ [y]).map RV.d = _
          rw [List.map_append, hni]; exact (insK_lt hcase (d_at hy)).symm
        · show false = decide (placeN (rs.map RV.d) x.d < k + 1)
          exact (decide_eq_false (by omega)).symm
      · obtain rfl : dn = false := by rw [hdn]; exact decide_eq_false (by omega)
        have hya : ¬ cmpD y.d x.d < 0 := Int.not_lt.2 (place_ge hsr (by omega) (d_at hy))
        have hi := isAt_some (x := x.d) (by rw [← hcase.1]; exact d_at hy)
        rw [hcase.2] at hi
        have hxa : ¬ cmpD x.d y.d < 0 := by have := of_decide_eq_true hi.symm; rw [cd_anti]; omega
        refine EW.ordB [(0, 0, 0), (1, 0, 0), (2, 0, 0), (3, 0, 0), (4, 0, 0), (5, 0, 0), (6, 0, 1), (7, 0, 1), (8, 1, 1), (9, 0, 0), (10, 0, 0)] (by kernel_rfl) rfl (by kernel_rfl) ?_
        simp only [opsZ, List.getD_cons_zero, List.getD_cons_succ]
        first | refine ZE.move rfl rfl rfl rfl sz0 ?_
        first | refine ZE.un rfl rfl rfl rfl sz0 (fun W => not_t _ W) ?_
        first | refine ZE.move rfl rfl rfl rfl sz0 ?_
        first | refine ZE.move rfl rfl rfl rfl sz0 ?_ | refine ZE.skip rfl rfl rfl sz0 ?_
        first | refine ZE.move rfl rfl rfl rfl sz0 ?_ | refine ZE.skip rfl rfl rfl sz0 ?_
        first | refine ZE.index rfl rfl rfl rfl rfl sz0 (fun W => iy W) ?_ | refine ZE.skip rfl rfl rfl sz0 ?_
        first | refine ZE.load rfl rfl rfl rfl sz1 (fun W hW => ldA ((ay1.below bei).below (sb_of hW))) ?_ | refine ZE.load rfl rfl rfl rfl sz1 (fun W hW => ld32 ((br1.on bei).on (sb_of hW))) ?_ | refine ZE.skip rfl rfl rfl sz1 ?_
        first | refine ZE.load rfl rfl rfl rfl sz1 (fun W hW => ldA ((ay1.below bei).below (sb_of hW))) ?_ | refine ZE.load rfl rfl rfl rfl sz1 (fun W hW => ld32 ((br1.on bei).on (sb_of hW))) ?_ | refine ZE.skip rfl rfl rfl sz1 ?_
        refine ZE.callB [y.val, x.val] enter14 rfl rfl rfl (fun W h => .inr h) (fun W hW => ahead_f hya W ((oky1.below bei).below hW) ((okx1.below bei).below hW)) ?_
        first | refine ZE.un rfl rfl rfl rfl sz0 (fun W => not_t _ W) ?_ | refine ZE.skip rfl rfl rfl sz0 ?_
        first | refine ZE.pick rfl rfl rfl rfl rfl sz0 ?_
        intro w11 h11
        have o11 := oi.below h11
        have be11 := bei.trans (h11.mono bei.size)
        have l11 := li
        refine EW.on ?_
        refine EW.cond_t rfl ?_
        refine EW.seq ?_
        refine EW.region ?_
        first | refine WL.move rfl rfl rfl ?_
        refine WL.load rfl rfl rfl (ld32 (br1.on be11)) ?_
        have nn12 := below_new w11 (.cells x.cs.toArray 32)
        obtain ⟨v12, w12, a1, o12, x12⟩ := (o11.below nn12).push (by have := nn12.size; have := be11.size; omega) (by have := l11; omega) x w11.heap.size 1 (Blk.new _ _ _) ((okx1.below be11).below nn12) (fun k hk => okx1.off (o11.base k hk)) 23
        have be12 : Below w1.heap.size w1 w12 := (be11.trans (nn12.mono be11.size)).trans (x12.below (fun k hk e => by have := o11.base k e; omega) (by have := nn12.size; have := be11.size; omega))
        refine WL.bslN [(0, x.val)] rfl rfl rfl (bsl23 x _) ?_
        refine WL.app rfl rfl rfl rfl a1 ?_
        first | refine WL.assign rfl rfl rfl ?_
        refine WL.done ?_
        refine EW.on ?_
        refine EW.region ?_
        first | refine WL.assign rfl rfl rfl ?_
        refine WL.done ?_
        refine EW.on ?_
        refine EW.seq ?_
        refine EW.ordB [(0, 0, 0), (1, 0, 0), (2, 0, 0), (3, 0, 1), (4, 0, 1), (5, 1, 1), (6, 0, 0), (7, 0, 1), (8, 0, 0), (9, 0, 0), (10, 0, 0), (11, 0, 1), (12, 1, 1), (13, 0, 0)] (by kernel_rfl) rfl (by kernel_rfl) ?_
        simp only [opsZ, List.getD_cons_zero, List.getD_cons_succ]
        first | refine ZE.move rfl rfl rfl rfl sz0 ?_
        first | refine ZE.move rfl rfl rfl rfl sz0 ?_
        first | refine ZE.index rfl rfl rfl rfl rfl sz0 (fun W => iy W) ?_
        first | refine ZE.load rfl rfl rfl rfl sz1 (fun W hW => ldA ((ay1.below be12).below (sb_of hW))) ?_ | refine ZE.load rfl rfl rfl rfl sz1 (fun W hW => ld32 ((br1.on be12).on (sb_of hW))) ?_
        first | refine ZE.load rfl rfl rfl rfl sz1 (fun W hW => ldA ((ay1.below be12).below (sb_of hW))) ?_ | refine ZE.load rfl rfl rfl rfl sz1 (fun W hW => ld32 ((br1.on be12).on (sb_of hW))) ?_
        refine ZE.callB [y.val, x.val] enter14 rfl rfl rfl (fun W h => .inr h) (fun W hW => ahead_f hya W ((oky1.below be12).below hW) ((okx1.below be12).below hW)) ?_
        first | refine ZE.move rfl rfl rfl rfl sz0 ?_
        first | refine ZE.load rfl rfl rfl rfl sz1 (fun W hW => ldA ((ay1.below be12).below (sb_of hW))) ?_ | refine ZE.load rfl rfl rfl rfl sz1 (fun W hW => ld32 ((br1.on be12).on (sb_of hW))) ?_ | refine ZE.skip rfl rfl rfl sz1 ?_
        first | refine ZE.move rfl rfl rfl rfl sz0 ?_ | refine ZE.skip rfl rfl rfl sz0 ?_
        first | refine ZE.move rfl rfl rfl rfl sz0 ?_ | refine ZE.skip rfl rfl rfl sz0 ?_
        first | refine ZE.index rfl rfl rfl rfl rfl sz0 (fun W => iy W) ?_ | refine ZE.skip rfl rfl rfl sz0 ?_
        first | refine ZE.load rfl rfl rfl rfl sz1 (fun W hW => ldA ((ay1.below be12).below (sb_of hW))) ?_ | refine ZE.load rfl rfl rfl rfl sz1 (fun W hW => ld32 ((br1.on be12).on (sb_of hW))) ?_ | refine ZE.skip rfl rfl rfl sz1 ?_
        refine ZE.callB [x.val, y.val] enter14 rfl rfl rfl (fun W h => .inr h) (fun W hW => ahead_f hxa W ((okx1.below be12).below hW) ((oky1.below be12).below hW)) ?_
        first | refine ZE.pick rfl rfl rfl rfl rfl sz0 ?_
        intro w14 h14
        have o14 := o12.below h14
        have be14 := be12.trans (h14.mono be12.size)
        have l14 : (ns ++ [x]).length ≤ 63 := by simp; omega
        refine EW.on ?_
        refine EW.cond_f rfl ?_
        refine EW.skip ?_
        refine pn_block ?_
        refine EW.on ?_
        refine EW.region ?_
        first | refine WL.move rfl rfl rfl ?_
        first | refine WL.bin rfl rfl rfl rfl (int_add ‹_› _ _ _) ?_
        first | refine WL.assign rfl rfl rfl ?_
        refine WL.done ?_
        refine EW.again (E := siE v vo i qr) (R := SiR w1 (rs.map RV.d) x.d) (m := fun z => rs.length - z.1) (x := (k, vn, ns, false)) (k + 1, v12, ns ++ [x], true) [0, 3, 4, 5, 6, 7, 8] rfl ⟨be14, by show k + 1 ≤ _; rw [List.length_map]; omega, o14, ?_, ?_⟩ (by show rs.length - (k + 1) < rs.length - k; omega)
        · show (ns ++ [x]).map RV.d = _
          rw [List.map_append, hni, insK_at hcase.1 (d_at hy), hcase.2]; rfl
        · show true = decide (placeN (rs.map RV.d) x.d < k + 1)
          exact (decide_eq_true (by omega)).symm
      · obtain rfl : dn = false := by rw [hdn]; exact decide_eq_false (by omega)
        have hya : ¬ cmpD y.d x.d < 0 := Int.not_lt.2 (place_ge hsr (by omega) (d_at hy))
        have hi := isAt_some (x := x.d) (by rw [← hcase.1]; exact d_at hy)
        rw [hcase.2] at hi
        have hxa : cmpD x.d y.d < 0 := by have := of_decide_eq_false hi.symm; rw [cd_anti]; omega
        refine EW.ordB [(0, 0, 0), (1, 0, 0), (2, 0, 0), (3, 0, 0), (4, 0, 0), (5, 0, 0), (6, 0, 1), (7, 0, 1), (8, 1, 1), (9, 0, 0), (10, 0, 0)] (by kernel_rfl) rfl (by kernel_rfl) ?_
        simp only [opsZ, List.getD_cons_zero, List.getD_cons_succ]
        first | refine ZE.move rfl rfl rfl rfl sz0 ?_
        first | refine ZE.un rfl rfl rfl rfl sz0 (fun W => not_t _ W) ?_
        first | refine ZE.move rfl rfl rfl rfl sz0 ?_
        first | refine ZE.move rfl rfl rfl rfl sz0 ?_ | refine ZE.skip rfl rfl rfl sz0 ?_
        first | refine ZE.move rfl rfl rfl rfl sz0 ?_ | refine ZE.skip rfl rfl rfl sz0 ?_
        first | refine ZE.index rfl rfl rfl rfl rfl sz0 (fun W => iy W) ?_ | refine ZE.skip rfl rfl rfl sz0 ?_
        first | refine ZE.load rfl rfl rfl rfl sz1 (fun W hW => ldA ((ay1.below bei).below (sb_of hW))) ?_ | refine ZE.load rfl rfl rfl rfl sz1 (fun W hW => ld32 ((br1.on bei).on (sb_of hW))) ?_ | refine ZE.skip rfl rfl rfl sz1 ?_
        first | refine ZE.load rfl rfl rfl rfl sz1 (fun W hW => ldA ((ay1.below bei).below (sb_of hW))) ?_ | refine ZE.load rfl rfl rfl rfl sz1 (fun W hW => ld32 ((br1.on bei).on (sb_of hW))) ?_ | refine ZE.skip rfl rfl rfl sz1 ?_
        refine ZE.callB [y.val, x.val] enter14 rfl rfl rfl (fun W h => .inr h) (fun W hW => ahead_f hya W ((oky1.below bei).below hW) ((okx1.below bei).below hW)) ?_
        first | refine ZE.un rfl rfl rfl rfl sz0 (fun W => not_t _ W) ?_ | refine ZE.skip rfl rfl rfl sz0 ?_
        first | refine ZE.pick rfl rfl rfl rfl rfl sz0 ?_
        intro w11 h11
        have o11 := oi.below h11
        have be11 := bei.trans (h11.mono bei.size)
        have l11 := li
        refine EW.on ?_
        refine EW.cond_t rfl ?_
        refine EW.seq ?_
        refine EW.region ?_
        first | refine WL.move rfl rfl rfl ?_
        refine WL.load rfl rfl rfl (ld32 (br1.on be11)) ?_
        have nn12 := below_new w11 (.cells x.cs.toArray 32)
        obtain ⟨v12, w12, a1, o12, x12⟩ := (o11.below nn12).push (by have := nn12.size; have := be11.size; omega) (by have := l11; omega) x w11.heap.size 1 (Blk.new _ _ _) ((okx1.below be11).below nn12) (fun k hk => okx1.off (o11.base k hk)) 23
        have be12 : Below w1.heap.size w1 w12 := (be11.trans (nn12.mono be11.size)).trans (x12.below (fun k hk e => by have := o11.base k e; omega) (by have := nn12.size; have := be11.size; omega))
        refine WL.bslN [(0, x.val)] rfl rfl rfl (bsl23 x _) ?_
        refine WL.app rfl rfl rfl rfl a1 ?_
        first | refine WL.assign rfl rfl rfl ?_
        refine WL.done ?_
        refine EW.on ?_
        refine EW.region ?_
        first | refine WL.assign rfl rfl rfl ?_
        refine WL.done ?_
        refine EW.on ?_
        refine EW.seq ?_
        refine EW.ordB [(0, 0, 0), (1, 0, 0), (2, 0, 0), (3, 0, 1), (4, 0, 1), (5, 1, 1), (6, 0, 0), (7, 0, 1), (8, 0, 0), (9, 0, 0), (10, 0, 0), (11, 0, 1), (12, 1, 1), (13, 0, 0)] (by kernel_rfl) rfl (by kernel_rfl) ?_
        simp only [opsZ, List.getD_cons_zero, List.getD_cons_succ]
        first | refine ZE.move rfl rfl rfl rfl sz0 ?_
        first | refine ZE.move rfl rfl rfl rfl sz0 ?_
        first | refine ZE.index rfl rfl rfl rfl rfl sz0 (fun W => iy W) ?_
        first | refine ZE.load rfl rfl rfl rfl sz1 (fun W hW => ldA ((ay1.below be12).below (sb_of hW))) ?_ | refine ZE.load rfl rfl rfl rfl sz1 (fun W hW => ld32 ((br1.on be12).on (sb_of hW))) ?_
        first | refine ZE.load rfl rfl rfl rfl sz1 (fun W hW => ldA ((ay1.below be12).below (sb_of hW))) ?_ | refine ZE.load rfl rfl rfl rfl sz1 (fun W hW => ld32 ((br1.on be12).on (sb_of hW))) ?_
        refine ZE.callB [y.val, x.val] enter14 rfl rfl rfl (fun W h => .inr h) (fun W hW => ahead_f hya W ((oky1.below be12).below hW) ((okx1.below be12).below hW)) ?_
        first | refine ZE.move rfl rfl rfl rfl sz0 ?_
        first | refine ZE.load rfl rfl rfl rfl sz1 (fun W hW => ldA ((ay1.below be12).below (sb_of hW))) ?_ | refine ZE.load rfl rfl rfl rfl sz1 (fun W hW => ld32 ((br1.on be12).on (sb_of hW))) ?_ | refine ZE.skip rfl rfl rfl sz1 ?_
        first | refine ZE.move rfl rfl rfl rfl sz0 ?_ | refine ZE.skip rfl rfl rfl sz0 ?_
        first | refine ZE.move rfl rfl rfl rfl sz0 ?_ | refine ZE.skip rfl rfl rfl sz0 ?_
        first | refine ZE.index rfl rfl rfl rfl rfl sz0 (fun W => iy W) ?_ | refine ZE.skip rfl rfl rfl sz0 ?_
        first | refine ZE.load rfl rfl rfl rfl sz1 (fun W hW => ldA ((ay1.below be12).below (sb_of hW))) ?_ | refine ZE.load rfl rfl rfl rfl sz1 (fun W hW => ld32 ((br1.on be12).on (sb_of hW))) ?_ | refine ZE.skip rfl rfl rfl sz1 ?_
        refine ZE.callB [x.val, y.val] enter14 rfl rfl rfl (fun W h => .inr h) (fun W hW => ahead_t hxa W ((okx1.below be12).below hW) ((oky1.below be12).below hW)) ?_
        first | refine ZE.pick rfl rfl rfl rfl rfl sz0 ?_
        intro w14 h14
        have o14 := o12.below h14
        have be14 := be12.trans (h14.mono be12.size)
        have l14 : (ns ++ [x]).length ≤ 63 := by simp; omega
        refine EW.on ?_
        refine EW.cond_t rfl ?_
        refine EW.region ?_
        first | refine WL.move rfl rfl rfl ?_
        first | refine WL.move rfl rfl rfl ?_
        first | refine WL.move rfl rfl rfl ?_
        refine WL.index rfl rfl rfl rfl (iy _) ?_
        refine WL.load rfl rfl rfl (ldA (ay1.below be14)) ?_
        have nn15 := below_new w14 (.cells y.cs.toArray 32)
        obtain ⟨v15, w15, a1, o15, x15⟩ := (o14.below nn15).push (by have := nn15.size; have := be14.size; omega) (by have := l14; omega) y w14.heap.size 1 (Blk.new _ _ _) ((oky1.below be14).below nn15) (fun k hk => oky1.off (o14.base k hk)) 23
        have be15 : Below w1.heap.size w1 w15 := (be14.trans (nn15.mono be14.size)).trans (x15.below (fun k hk e => by have := o14.base k e; omega) (by have := nn15.size; have := be14.size; omega))
        refine WL.bslN [(0, y.val)] rfl rfl rfl (bsl23 y _) ?_
        refine WL.app rfl rfl rfl rfl a1 ?_
        first | refine WL.assign rfl rfl rfl ?_
        refine WL.done ?_
        refine pn_block ?_
        refine EW.on ?_
        refine EW.region ?_
        first | refine WL.move rfl rfl rfl ?_
        first | refine WL.bin rfl rfl rfl rfl (int_add ‹_› _ _ _) ?_
        first | refine WL.assign rfl rfl rfl ?_
        refine WL.done ?_
        refine EW.again (E := siE v vo i qr) (R := SiR w1 (rs.map RV.d) x.d) (m := fun z => rs.length - z.1) (x := (k, vn, ns, false)) (k + 1, v15, ns ++ [x] ++ [y], true) [0, 3, 4, 5, 6, 7, 8] rfl ⟨be15, by show k + 1 ≤ _; rw [List.length_map]; omega, o15, ?_, ?_⟩ (by show rs.length - (k + 1) < rs.length - k; omega)
        · show (ns ++ [x] ++ [y]).map RV.d = _
          rw [List.map_append, List.map_append, hni, insK_at hcase.1 (d_at hy), hcase.2, List.append_assoc]; rfl
        · show true = decide (placeN (rs.map RV.d) x.d < k + 1)
          exact (decide_eq_true (by omega)).symm
      · obtain rfl : dn = true := by rw [hdn]; exact decide_eq_true (by omega)
        have hgt := place_gt hsr hcase (d_at hy)
        have hya : ¬ cmpD y.d x.d < 0 := by omega
        have hxa : cmpD x.d y.d < 0 := by rw [cd_anti]; omega
        refine EW.ordB [(0, 0, 0), (1, 0, 0), (2, 0, 0), (3, 0, 0), (4, 0, 0), (5, 0, 0), (6, 0, 1), (7, 0, 1), (8, 0, 0), (9, 0, 0), (10, 0, 0)] (by kernel_rfl) rfl (by kernel_rfl) ?_
        simp only [opsZ, List.getD_cons_zero, List.getD_cons_succ]
        first | refine ZE.move rfl rfl rfl rfl sz0 ?_
        first | refine ZE.un rfl rfl rfl rfl sz0 (fun W => not_t _ W) ?_
        first | refine ZE.move rfl rfl rfl rfl sz0 ?_
        first | refine ZE.move rfl rfl rfl rfl sz0 ?_ | refine ZE.skip rfl rfl rfl sz0 ?_
        first | refine ZE.move rfl rfl rfl rfl sz0 ?_ | refine ZE.skip rfl rfl rfl sz0 ?_
        first | refine ZE.index rfl rfl rfl rfl rfl sz0 (fun W => iy W) ?_ | refine ZE.skip rfl rfl rfl sz0 ?_
        first | refine ZE.load rfl rfl rfl rfl sz1 (fun W hW => ldA ((ay1.below bei).below (sb_of hW))) ?_ | refine ZE.load rfl rfl rfl rfl sz1 (fun W hW => ld32 ((br1.on bei).on (sb_of hW))) ?_ | refine ZE.skip rfl rfl rfl sz1 ?_
        first | refine ZE.load rfl rfl rfl rfl sz1 (fun W hW => ldA ((ay1.below bei).below (sb_of hW))) ?_ | refine ZE.load rfl rfl rfl rfl sz1 (fun W hW => ld32 ((br1.on bei).on (sb_of hW))) ?_ | refine ZE.skip rfl rfl rfl sz1 ?_
        refine ZE.skip rfl rfl rfl sz0 ?_
        first | refine ZE.un rfl rfl rfl rfl sz0 (fun W => not_t _ W) ?_ | refine ZE.skip rfl rfl rfl sz0 ?_
        first | refine ZE.pick rfl rfl rfl rfl rfl sz0 ?_
        intro w11 h11
        have o11 := oi.below h11
        have be11 := bei.trans (h11.mono bei.size)
        have l11 := li
        refine EW.on ?_
        refine EW.cond_f rfl ?_
        refine EW.skip ?_
        refine EW.on ?_
        refine EW.seq ?_
        refine EW.ordB [(0, 0, 0), (1, 0, 0), (2, 0, 0), (3, 0, 1), (4, 0, 1), (5, 1, 1), (6, 0, 0), (7, 0, 1), (8, 0, 0), (9, 0, 0), (10, 0, 0), (11, 0, 1), (12, 1, 1), (13, 0, 0)] (by kernel_rfl) rfl (by kernel_rfl) ?_
        simp only [opsZ, List.getD_cons_zero, List.getD_cons_succ]
        first | refine ZE.move rfl rfl rfl rfl sz0 ?_
        first | refine ZE.move rfl rfl rfl rfl sz0 ?_
        first | refine ZE.index rfl rfl rfl rfl rfl sz0 (fun W => iy W) ?_
        first | refine ZE.load rfl rfl rfl rfl sz1 (fun W hW => ldA ((ay1.below be11).below (sb_of hW))) ?_ | refine ZE.load rfl rfl rfl rfl sz1 (fun W hW => ld32 ((br1.on be11).on (sb_of hW))) ?_
        first | refine ZE.load rfl rfl rfl rfl sz1 (fun W hW => ldA ((ay1.below be11).below (sb_of hW))) ?_ | refine ZE.load rfl rfl rfl rfl sz1 (fun W hW => ld32 ((br1.on be11).on (sb_of hW))) ?_
        refine ZE.callB [y.val, x.val] enter14 rfl rfl rfl (fun W h => .inr h) (fun W hW => ahead_f hya W ((oky1.below be11).below hW) ((okx1.below be11).below hW)) ?_
        first | refine ZE.move rfl rfl rfl rfl sz0 ?_
        first | refine ZE.load rfl rfl rfl rfl sz1 (fun W hW => ldA ((ay1.below be11).below (sb_of hW))) ?_ | refine ZE.load rfl rfl rfl rfl sz1 (fun W hW => ld32 ((br1.on be11).on (sb_of hW))) ?_ | refine ZE.skip rfl rfl rfl sz1 ?_
        first | refine ZE.move rfl rfl rfl rfl sz0 ?_ | refine ZE.skip rfl rfl rfl sz0 ?_
        first | refine ZE.move rfl rfl rfl rfl sz0 ?_ | refine ZE.skip rfl rfl rfl sz0 ?_
        first | refine ZE.index rfl rfl rfl rfl rfl sz0 (fun W => iy W) ?_ | refine ZE.skip rfl rfl rfl sz0 ?_
        first | refine ZE.load rfl rfl rfl rfl sz1 (fun W hW => ldA ((ay1.below be11).below (sb_of hW))) ?_ | refine ZE.load rfl rfl rfl rfl sz1 (fun W hW => ld32 ((br1.on be11).on (sb_of hW))) ?_ | refine ZE.skip rfl rfl rfl sz1 ?_
        refine ZE.callB [x.val, y.val] enter14 rfl rfl rfl (fun W h => .inr h) (fun W hW => ahead_t hxa W ((okx1.below be11).below hW) ((oky1.below be11).below hW)) ?_
        first | refine ZE.pick rfl rfl rfl rfl rfl sz0 ?_
        intro w14 h14
        have o14 := o11.below h14
        have be14 := be11.trans (h14.mono be11.size)
        have l14 : (ns).length ≤ 63 := by omega
        refine EW.on ?_
        refine EW.cond_t rfl ?_
        refine EW.region ?_
        first | refine WL.move rfl rfl rfl ?_
        first | refine WL.move rfl rfl rfl ?_
        first | refine WL.move rfl rfl rfl ?_
        refine WL.index rfl rfl rfl rfl (iy _) ?_
        refine WL.load rfl rfl rfl (ldA (ay1.below be14)) ?_
        have nn15 := below_new w14 (.cells y.cs.toArray 32)
        obtain ⟨v15, w15, a1, o15, x15⟩ := (o14.below nn15).push (by have := nn15.size; have := be14.size; omega) (by have := l14; omega) y w14.heap.size 1 (Blk.new _ _ _) ((oky1.below be14).below nn15) (fun k hk => oky1.off (o14.base k hk)) 23
        have be15 : Below w1.heap.size w1 w15 := (be14.trans (nn15.mono be14.size)).trans (x15.below (fun k hk e => by have := o14.base k e; omega) (by have := nn15.size; have := be14.size; omega))
        refine WL.bslN [(0, y.val)] rfl rfl rfl (bsl23 y _) ?_
        refine WL.app rfl rfl rfl rfl a1 ?_
        first | refine WL.assign rfl rfl rfl ?_
        refine WL.done ?_
        refine pn_block ?_
        refine EW.on ?_
        refine EW.region ?_
        first | refine WL.move rfl rfl rfl ?_
        first | refine WL.bin rfl rfl rfl rfl (int_add ‹_› _ _ _) ?_
        first | refine WL.assign rfl rfl rfl ?_
        refine WL.done ?_
        refine EW.again (E := siE v vo i qr) (R := SiR w1 (rs.map RV.d) x.d) (m := fun z => rs.length - z.1) (x := (k, vn, ns, true)) (k + 1, v15, ns ++ [y], true) [0, 3, 4, 5, 6, 7, 8] rfl ⟨be15, by show k + 1 ≤ _; rw [List.length_map]; omega, o15, ?_, ?_⟩ (by show rs.length - (k + 1) < rs.length - k; omega)
        · show (ns ++ [y]).map RV.d = _
          rw [List.map_append, hni]; exact (insK_gt hcase (d_at hy)).symm
        · show true = decide (placeN (rs.map RV.d) x.d < k + 1)
          exact (decide_eq_true (by omega)).symm
    · refine EW.exit ?_
      refine px_then ?_
      refine px_then ?_
      refine px_block ?_
      refine EW.on ?_
      refine EW.seq ?_
      refine EW.seq ?_
      have hkp : placeN (rs.map RV.d) x.d < k ∨ ¬ placeN (rs.map RV.d) x.d < k := by omega
      rcases hkp with hkp | hkp
      · obtain rfl : dn = true := by rw [hdn]; exact decide_eq_true (by omega)
        refine EW.region ?_
        first | refine WL.move rfl rfl rfl ?_
        first | refine WL.un rfl rfl rfl (not_t _ _) ?_
        refine WL.done ?_
        refine EW.on ?_
        refine EW.cond_f rfl ?_
        refine EW.skip ?_
        refine EW.on ?_
        refine EW.region ?_
        first | refine WL.move rfl rfl rfl ?_
        first | refine WL.assign rfl rfl rfl ?_
        refine WL.done ?_
        refine pn_block ?_
        refine EW.on ?_
        refine EW.region ?_
        first | refine WL.move rfl rfl rfl ?_
        first | refine WL.bin rfl rfl rfl rfl (int_add ‹_› _ _ _) ?_
        first | refine WL.assign rfl rfl rfl ?_
        refine WL.done ?_
        refine EW.again (E := soE v) (R := SoR w ls) (m := fun z => 60 - z.1) (x := (i, vo, rs)) (i + 1, vn, ns) [0, 3, 4] rfl ⟨?_, by show i + 1 ≤ _; omega, by show i + 1 ≤ 60; omega, oi.ls, ?_, fun k hk => by have := oi.base k hk; have := be1.size; have := hbe.size; omega⟩ (by show 60 - (i + 1) < 60 - i; omega)
        · have b1 := hbe.trans (be1.mono hbe.size)
          exact b1.trans (bei.mono b1.size)
        · show (ns).map RV.d = _
          have e1 : (ns).map RV.d = insD (rs.map RV.d) x.d := by
            rw [hni, show k = (rs.map RV.d).length by rw [List.length_map]; omega, insK_end (by rw [List.length_map]; omega)]
          rw [e1, hd, List.take_add_one, d_at hz]
          show _ = sortD ((ls.map RV.d).take i ++ [z.d])
          rw [sortD_snoc, hxd]
      · obtain rfl : dn = false := by rw [hdn]; exact decide_eq_false (by omega)
        refine EW.region ?_
        first | refine WL.move rfl rfl rfl ?_
        first | refine WL.un rfl rfl rfl (not_t _ _) ?_
        refine WL.done ?_
        refine EW.on ?_
        refine EW.cond_t rfl ?_
        refine EW.region ?_
        first | refine WL.move rfl rfl rfl ?_
        refine WL.load rfl rfl rfl (ld32 (br1.on bei)) ?_
        have nn17 := below_new wi (.cells x.cs.toArray 32)
        obtain ⟨v17, w17, a1, o17, x17⟩ := (oi.below nn17).push (by have := nn17.size; have := bei.size; omega) (by have := li; omega) x wi.heap.size 1 (Blk.new _ _ _) ((okx1.below bei).below nn17) (fun k hk => okx1.off (oi.base k hk)) 23
        have be17 : Below w1.heap.size w1 w17 := (bei.trans (nn17.mono bei.size)).trans (x17.below (fun k hk e => by have := oi.base k e; omega) (by have := nn17.size; have := bei.size; omega))
        refine WL.bslN [(0, x.val)] rfl rfl rfl (bsl23 x _) ?_
        refine WL.app rfl rfl rfl rfl a1 ?_
        first | refine WL.assign rfl rfl rfl ?_
        refine WL.done ?_
        refine EW.on ?_
        refine EW.region ?_
        first | refine WL.move rfl rfl rfl ?_
        first | refine WL.assign rfl rfl rfl ?_
        refine WL.done ?_
        refine pn_block ?_
        refine EW.on ?_
        refine EW.region ?_
        first | refine WL.move rfl rfl rfl ?_
        first | refine WL.bin rfl rfl rfl rfl (int_add ‹_› _ _ _) ?_
        first | refine WL.assign rfl rfl rfl ?_
        refine WL.done ?_
        refine EW.again (E := soE v) (R := SoR w ls) (m := fun z => 60 - z.1) (x := (i, vo, rs)) (i + 1, v17, ns ++ [x]) [0, 3, 4] rfl ⟨?_, by show i + 1 ≤ _; omega, by show i + 1 ≤ 60; omega, o17.ls, ?_, fun k hk => by have := o17.base k hk; have := be1.size; have := hbe.size; omega⟩ (by show 60 - (i + 1) < 60 - i; omega)
        · have b1 := hbe.trans (be1.mono hbe.size)
          exact b1.trans (be17.mono b1.size)
        · show (ns ++ [x]).map RV.d = _
          have e1 : (ns ++ [x]).map RV.d = insD (rs.map RV.d) x.d := by
            rw [List.map_append, hni, show k = (rs.map RV.d).length by rw [List.length_map]; omega]
            exact insK_last (by rw [List.length_map]; omega)
          rw [e1, hd, List.take_add_one, d_at hz]
          show _ = sortD ((ls.map RV.d).take i ++ [z.d])
          rw [sortD_snoc, hxd]
  · have z1 : (i : Int) < (ls.length : Int) := by omega
    have z2 : ¬ (i : Int) < 60 := by omega
    have hend : i = min 60 ls.length := by omega
    refine EW.region ?_
    first | refine WL.move rfl rfl rfl ?_
    first | refine WL.move rfl rfl rfl ?_
    refine WL.len rfl rfl rfl (hL.len _ _) ?_
    first | refine WL.bin rfl rfl rfl rfl (int_lt_t ‹_› _ _ _) ?_ | refine WL.bin rfl rfl rfl rfl (int_lt_f ‹_› _ _ _) ?_ | refine WL.bin rfl rfl rfl rfl (int_lt_d _ _ _ _ _) ?_
    first | refine WL.move rfl rfl rfl ?_
    first | refine WL.move rfl rfl rfl ?_ | refine WL.skip _ rfl rfl rfl ?_
    first | refine WL.bin rfl rfl rfl rfl (int_lt_t ‹_› _ _ _) ?_ | refine WL.bin rfl rfl rfl rfl (int_lt_f ‹_› _ _ _) ?_ | refine WL.bin rfl rfl rfl rfl (int_lt_d _ _ _ _ _) ?_ | refine WL.skip _ rfl rfl rfl ?_
    first | refine WL.pick rfl rfl rfl rfl ?_
    refine WL.done ?_
    refine EW.on ?_
    refine EW.cond_f rfl ?_
    refine EW.exit ?_
    refine px_then ?_
    refine px_then ?_
    refine px_block ?_
    refine EW.on ?_
    refine EW.seq ?_
    refine EW.region ?_
    first | refine WL.move rfl rfl rfl ?_
    first | refine WL.assign rfl rfl rfl ?_
    refine WL.done ?_
    refine EW.on ?_
    refine EW.ret ?_
    exact EW.returns Try.results11 rfl ⟨vo, rs, rfl, ho, by rw [hd, hend], hfr, hbe⟩
  · have z1 : ¬ (i : Int) < (ls.length : Int) := by omega
    have hend : i = min 60 ls.length := by omega
    refine EW.region ?_
    first | refine WL.move rfl rfl rfl ?_
    first | refine WL.move rfl rfl rfl ?_
    refine WL.len rfl rfl rfl (hL.len _ _) ?_
    first | refine WL.bin rfl rfl rfl rfl (int_lt_t ‹_› _ _ _) ?_ | refine WL.bin rfl rfl rfl rfl (int_lt_f ‹_› _ _ _) ?_ | refine WL.bin rfl rfl rfl rfl (int_lt_d _ _ _ _ _) ?_
    first | refine WL.move rfl rfl rfl ?_
    first | refine WL.move rfl rfl rfl ?_ | refine WL.skip _ rfl rfl rfl ?_
    first | refine WL.bin rfl rfl rfl rfl (int_lt_t ‹_› _ _ _) ?_ | refine WL.bin rfl rfl rfl rfl (int_lt_f ‹_› _ _ _) ?_ | refine WL.bin rfl rfl rfl rfl (int_lt_d _ _ _ _ _) ?_ | refine WL.skip _ rfl rfl rfl ?_
    first | refine WL.pick rfl rfl rfl rfl ?_
    refine WL.done ?_
    refine EW.on ?_
    refine EW.cond_f rfl ?_
    refine EW.exit ?_
    refine px_then ?_
    refine px_then ?_
    refine px_block ?_
    refine EW.on ?_
    refine EW.seq ?_
    refine EW.region ?_
    first | refine WL.move rfl rfl rfl ?_
    first | refine WL.assign rfl rfl rfl ?_
    refine WL.done ?_
    refine EW.on ?_
    refine EW.ret ?_
    exact EW.returns Try.results11 rfl ⟨vo, rs, rfl, ho, by rw [hd, hend], hfr, hbe⟩
end Go.Proofs.Yteghbkeaojbdgaa
