import Derived.Test.YtiefgmgjlhjjhaaDoorDn
set_option linter.unusedVariables false
set_option linter.unusedSimpArgs false
namespace Go.Proofs.YtiefgmgjlhjjhaaDoor
open Go.RowKit

attribute [local irreducible] sm sumOf cnt chk partB ptB lgL pM pI pN pA pS pC adI adW adE adL
theorem ld5x {w : World} {ad : Addr} {u : UInt8} (hc : w.cell? ad = some (byt u)) : (Instr.loadAt 5 (.pointer (some ad))).run Tryd.prog w = .ok (byt u) w := by go_simp
theorem Has.getX {w : World} {v : Value} {bs : List UInt8} (h : Has w v bs) {i : Nat} {u : UInt8} (hu : bs[i]? = some u) : ∃ ad, (∀ W, (Instr.indexAt 24 v (.int .i64 (i : Int))).run Tryd.prog W = .ok (.pointer (some ad)) W) ∧ (Instr.loadAt 5 (.pointer (some ad))).run Tryd.prog w = .ok (byt u) w := by
  have hi : i < bs.length := (List.getElem?_eq_some_iff.1 hu).1
  rcases h with ⟨rfl, rfl⟩ | ⟨ad, cap, rfl, h2, h3⟩
  · simp at hi
  · exact ⟨ad.add i, fun W => idx24 ad _ cap i hi W, ld5x (h3 i u hu)⟩
def xoE (ow : Value) (i : Nat) : List (Nat × Value) := [(7, ow), (14, .int .i64 (i : Int))]
structure XoR (b : Nat) (ow : Value) (D : World → Prop) (n i : Nat) (W : World) : Prop where
  le : i ≤ n
  ob : ∃ bs, bs.length = n ∧ Ob W b ow bs
  dk : D W
set_option maxRecDepth 100000 in
set_option maxHeartbeats 16000000 in
theorem step1 {w0 w : World} {p r : Nat} {E : List Me} {c : Nat} {q : Nat} {v : Value} {L : List Rp} {most : Nat} (D : Dk w0 w p r E c q v L most) (a : List UInt8) (id : Nat) (hid : id < 4294967296) (bv : Value) (bs : List UInt8) (hb : Has w0 bv bs) (hl : bs.length ≤ 140737488355328) : Calls Tryd.prog 17 #[.pointer (some ⟨p, 0, none⟩), .pointer (some ⟨q, 0, none⟩), (Ox.mk 1 a id bv).v] w fun e w' => e = .returned (.bool true) ∧ ∃ E' c' v' L', Dk w0 w' p r E' c' q v' L' most := by
  refine calls_of_args [.pointer (some ⟨p, 0, none⟩), .pointer (some ⟨q, 0, none⟩), (Ox.mk 1 a id bv).v] Tryd.func17 rfl 214 Tryd.ntmps17 (by show 3 ≤ 214; decide) ?_
  refine EW.seq ?_
  refine EW.region ?_
  obtain ⟨w1, q5, rb5, b5, l1, hq5⟩ := box_any 51 (Ox.mk 1 a id bv).cs w
  refine WL.box rfl rfl rfl rb5 ?_
  have D1 := D.on l1
  have hb1 := hb.below D1.be
  first | refine WL.assign rfl rfl rfl ?_
  refine WL.done ?_
  refine EW.on ?_
  refine EW.seq ?_
  refine EW.region ?_
  refine WL.bslN [] rfl rfl rfl (bsl22n _) ?_
  have l15 := below_new w1 (.cells #[] 5)
  refine WL.field rfl rfl rfl (g51_3 _ _) ?_
  refine WL.load rfl rfl rfl (ldS (b5.on l15) rfl) ?_
  obtain ⟨ow, w2, r2, ow2, be2⟩ := copy_new hb1 hl 24
  refine WL.app rfl rfl rfl rfl r2 ?_
  have D2 := D1.on be2
  have b52 := b5.on be2
  have hb2 := hb.below D2.be
  have oo := ow2.ob
  have LL2 : L.length ≤ 64 := by rw [D.rel.len]; have := D.le; have := D.m64; omega
  first | refine WL.assign rfl rfl rfl ?_
  refine WL.done ?_
  refine EW.on ?_
  refine EW.seq ?_
  refine EW.seq ?_
  refine EW.region ?_
  refine WL.field rfl rfl rfl (g51_0 _ _) ?_
  refine WL.load rfl rfl rfl (ldI b52 rfl) ?_
  refine WL.done ?_
  refine EW.on ?_
  refine EW.block ?_
  refine EW.seq ?_
  refine EW.region ?_
  first | refine WL.bin rfl rfl rfl rfl (int_eq_t rfl _ _ _) ?_ | refine WL.bin rfl rfl rfl rfl (int_eq_t ‹_› _ _ _) ?_ | refine WL.bin rfl rfl rfl rfl (int_eq_f ‹_› _ _ _) ?_ | refine WL.bin rfl rfl rfl rfl (int_eq_d _ _ _ _ _) ?_
  first | refine WL.assign rfl rfl rfl ?_
  refine WL.done ?_
  refine EW.on ?_
  refine EW.cond_t rfl ?_
  refine EW.seq ?_
  refine EW.region ?_
  first | refine WL.move rfl rfl rfl ?_
  first | refine WL.field rfl rfl rfl (g51_1 _ _) ?_ | refine WL.skip _ rfl rfl rfl ?_
  first | refine WL.load rfl rfl rfl (ldTb b52 rfl) ?_ | refine WL.skip _ rfl rfl rfl ?_
  first | refine WL.move rfl rfl rfl ?_
  refine WL.call [.pointer (some ⟨p, 0, none⟩), sv a, ow] enter10 rfl rfl rfl (add_any p r most E c a ow bs w2 D2.tr oo.has hl D2.ks) ?_
  rintro _ w3 ⟨u3, c3, rfl, tr3, fx3, tb3⟩
  refine ⟨_, rfl, ?_⟩
  have b53 := b52.fx fx3 (b52.neM D2.tr.mp.hp)
  have rt3 := D2.rt.fxM D2.tr.mp.hp fx3
  have o3 := oo.fx fx3 (fun k hk e => by have e' : k = r := hk; rw [e'] at e; exact oo.neM D2.tr.mp.hp e)
  have hb3 := hb2.fxM D2.tr.mp.hp fx3
  have bW : Below w0.heap.size w2 w3 := fx3.below (fun k hk e => by have e' : k = r := e; have := D2.hr; omega) D2.be.size
  have rs3 := D2.rs.below bW D2.z3
  have bs3 := D2.bs.below bW (by have := D2.z3; omega)
  first | refine WL.move rfl rfl rfl ?_
  refine WL.extract rfl rfl rfl (ext_3 _ _ _ _).1 ?_
  refine WL.extract rfl rfl rfl (ext_3 _ _ _ _).2.1 ?_
  refine WL.extract rfl rfl rfl (ext_3 _ _ _ _).2.2 ?_
  first | refine WL.assign rfl rfl rfl ?_
  first | refine WL.assign rfl rfl rfl ?_
  first | refine WL.assign rfl rfl rfl ?_
  refine WL.done ?_
  refine EW.on ?_
  refine EW.seq ?_
  refine EW.region ?_
  first | refine WL.move rfl rfl rfl ?_
  first | refine WL.field rfl rfl rfl (g51_1 _ _) ?_ | refine WL.skip _ rfl rfl rfl ?_
  first | refine WL.load rfl rfl rfl (ldTb b53 rfl) ?_ | refine WL.skip _ rfl rfl rfl ?_
  first | refine WL.field rfl rfl rfl (g51_3 _ _) ?_ | refine WL.skip _ rfl rfl rfl ?_
  first | refine WL.load rfl rfl rfl (ldS b53 rfl) ?_ | refine WL.skip _ rfl rfl rfl ?_
  refine WL.call [.pointer (some ⟨q, 0, none⟩), sv a, bv] enter31 rfl rfl rfl (doc_add D2.rel D2.tr.mp.nd D2.tr.sh q v most (by omega) a bv bs w3 rt3 hb3 hl rs3 bs3) ?_
  rintro _ w4 ⟨rfl, v4, L4, rt4, rel4, nb4, rb4, f4⟩
  refine ⟨_, rfl, ?_⟩
  have D4 := D2.two tr3 fx3 tb3 rt4 f4 nb4 (rel4 _ _) (ad_len D.le a bs u3 c)
  have o4 := o3.fx f4 (fun k hk e => by
    rcases hk with e' | e'
    · rw [e'] at e; exact o3.neB rt3.bl (by decide) e
    · exact o3.neL rt3.ow (by decide) e' e)
  have b54 := b53.fx f4 (fun e => by
    rcases e with e | e
    · exact b53.neT rt3.bl (by decide) e
    · exact rt3.ow.neB b53 (by decide) q5 e rfl)
  have hb4 := hb.below D4.be
  have hO : ∀ kO, ow.ownBlock = some kO → TrB (adL E most a bs u3 c) kO ∧ RtB L4 kO ∧ w0.heap.size ≤ kO := fun kO hk => by
    have h1 := oo.base kO hk
    have h2 := (oo.lt hk).1
    refine ⟨tb3 kO h2 (D1.tr.offNew h1), rb4 kO (by have := fx3.size; omega) (D1.rt.offNew h1), ?_⟩
    have := D1.be.size
    omega
  first | refine WL.move rfl rfl rfl ?_
  refine WL.extract rfl rfl rfl (ext_3 _ _ _ _).1 ?_
  refine WL.extract rfl rfl rfl (ext_3 _ _ _ _).2.1 ?_
  refine WL.extract rfl rfl rfl (ext_3 _ _ _ _).2.2 ?_
  first | refine WL.assign rfl rfl rfl ?_
  first | refine WL.assign rfl rfl rfl ?_
  first | refine WL.assign rfl rfl rfl ?_
  refine WL.done ?_
  refine EW.on ?_
  refine EW.seq ?_
  refine EW.seq ?_
  refine EW.region ?_
  first | refine WL.move rfl rfl rfl ?_
  first | refine WL.move rfl rfl rfl ?_
  refine WL.bin rfl rfl rfl rfl (neqU _ _ _ _ _) ?_
  rw [show decide (¬ adI E most a bs = adI E most a bs) = false by simp]
  first | refine WL.move rfl rfl rfl ?_
  first | refine WL.move rfl rfl rfl ?_ | refine WL.skip _ rfl rfl rfl ?_
  first | refine WL.move rfl rfl rfl ?_ | refine WL.skip _ rfl rfl rfl ?_
  refine WL.bin rfl rfl rfl rfl (bool_ne _ _ _ _ _) ?_
  rw [show (adW E most a bs != adW E most a bs) = false by simp]
  first | refine WL.pick rfl rfl rfl rfl ?_
  first | refine WL.move rfl rfl rfl ?_
  first | refine WL.move rfl rfl rfl ?_ | refine WL.skip _ rfl rfl rfl ?_
  first | refine WL.move rfl rfl rfl ?_ | refine WL.skip _ rfl rfl rfl ?_
  refine WL.bin rfl rfl rfl rfl (int_ne_f rfl _ _ _) ?_
  first | refine WL.pick rfl rfl rfl rfl ?_
  first | refine WL.move rfl rfl rfl ?_
  first | refine WL.move rfl rfl rfl ?_ | refine WL.skip _ rfl rfl rfl ?_
  refine WL.conv rfl rfl rfl (o4.has.convert) ?_
  first | refine WL.field rfl rfl rfl (g51_3 _ _) ?_ | refine WL.skip _ rfl rfl rfl ?_
  first | refine WL.load rfl rfl rfl (ldS b54 rfl) ?_ | refine WL.skip _ rfl rfl rfl ?_
  refine WL.conv rfl rfl rfl (hb4.convert) ?_
  refine WL.bin rfl rfl rfl rfl (str_ne_d _ _ _ _ _) ?_
  rw [show decide (¬ bs = bs) = false by simp]
  first | refine WL.pick rfl rfl rfl rfl ?_
  refine WL.done ?_
  refine EW.on ?_
  refine EW.cond_f rfl ?_
  refine EW.skip ?_
  refine EW.on ?_
  refine EW.seq ?_
  refine EW.region ?_
  first | refine WL.assign rfl rfl rfl ?_
  refine WL.done ?_
  refine EW.on ?_
  refine EW.block ?_
  refine EW.loop (xoE ow) (XoR w1.heap.size ow (fun W => Dk w0 W p r (adL E most a bs u3 c) c3 q v4 L4 most) bs.length) (fun i => bs.length - i) 0 [7, 14] rfl ⟨Nat.zero_le _, ⟨bs, rfl, o4⟩, D4⟩ ?_
  rintro i wi hR
  obtain ⟨hil, ⟨BB, hBB, oi⟩, di⟩ := hR
  show EW _ _ _ _ [(7, ow), (14, .int .i64 (i : Int))] _
  have s1 : IntKind.i64.wrap ((i : Int) + 1) = ((i + 1 : Nat) : Int) := by rw [IntKind.wrap_i64]; omega
  refine EW.seq ?_
  refine EW.seq ?_
  refine EW.region ?_
  first | refine WL.move rfl rfl rfl ?_
  first | refine WL.move rfl rfl rfl ?_
  refine WL.len rfl rfl rfl (oi.has.len _ _) ?_
  refine WL.bin rfl rfl rfl rfl (int_lt_d _ _ _ _ _) ?_
  refine WL.done ?_
  refine EW.on ?_
  refine EW.cond_d rfl (fun h79 => ?_) (fun h79 => ?_)
  · have ht : i < BB.length := by omega
    obtain ⟨u, hu⟩ : ∃ u, BB[i]? = some u := ⟨_, List.getElem?_eq_getElem ht⟩
    obtain ⟨ad, w', ix, st, oi', f'⟩ := oi.setAtF i ht (u ^^^ 85)
    obtain ⟨ad2, ix2, lx2⟩ := oi.has.getX hu
    have di' : Dk w0 w' p r (adL E most a bs u3 c) c3 q v4 L4 most := by
      obtain ⟨kO, hkO⟩ : ∃ kO, ow.ownBlock = some kO := by
        obtain ⟨_, ⟨e1, e2⟩ | ⟨g, cp, cur, e1, _⟩⟩ := oi.row
        · rw [e2] at ht; cases ht
        · rw [e1]; exact ⟨g, rfl⟩
      obtain ⟨x1, x2, x3⟩ := hO kO hkO
      exact di.fxO oi hkO x1 x2 x3 (f'.mono (fun k _ e => by have e' : ow.ownBlock = some k := e; rw [hkO] at e'; cases e'; rfl))
    refine EW.skip ?_
    refine EW.on ?_
    refine EW.seq ?_
    refine EW.block ?_
    refine EW.region ?_
    first | refine WL.move rfl rfl rfl ?_
    first | refine WL.move rfl rfl rfl ?_
    refine WL.index rfl rfl rfl rfl (ix2 _) ?_
    refine WL.load rfl rfl rfl lx2 ?_
    refine WL.bin rfl rfl rfl rfl (xorB u _ _ _) ?_
    refine WL.index rfl rfl rfl rfl (ix _) ?_
    refine WL.store rfl rfl rfl st ?_
    refine WL.done ?_
    refine pn_block ?_
    refine EW.on ?_
    refine EW.region ?_
    first | refine WL.move rfl rfl rfl ?_
    first | refine WL.bin rfl rfl rfl rfl (int_add ‹_› _ _ _) ?_
    first | refine WL.assign rfl rfl rfl ?_
    refine WL.done ?_
    exact EW.again (i + 1) [7, 14] rfl ⟨by omega, ⟨_, by rw [List.length_set]; exact hBB, oi'⟩, di'⟩ (by omega)
  · skip
    refine EW.exit ?_
    refine px_then ?_
    refine px_then ?_
    refine px_block ?_
    refine pn_block ?_
    refine EW.on ?_
    refine EW.seq ?_
    refine EW.region ?_
    first | refine WL.assign rfl rfl rfl ?_
    refine WL.done ?_
    refine EW.on ?_
    refine EW.ret ?_
    exact EW.returns Tryd.results17 rfl ⟨rfl, _, _, _, _, di⟩
theorem Lb.parts {w : World} {b : Nat} {u : Value} {vs : List Value} (h : Lb 24 1 w b u (vr vs)) {ls : List (List UInt8)} (hl : vs.length = ls.length) (ho : ∀ (i : Nat) x l, vs[i]? = some x → ls[i]? = some l → Has w x l) : Parts w u (vs.zip ls) := by
  have hzl : (vs.zip ls).length = vs.length := by rw [List.length_zip, ← hl, Nat.min_self]
  have hml : (vr vs).length = vs.length := by simp [vr]
  rcases h.ow.li.sl with ⟨h1, h2⟩ | ⟨ad, cap, h1, h2⟩
  · have : vs.length = 0 := by rw [← hml, h2]; rfl
    exact .inl ⟨h1, List.length_eq_zero_iff.1 (by omega)⟩
  · rw [hml] at h1 h2
    refine .inr ⟨ad, cap, by rw [hzl]; exact h1, by rw [hzl]; exact h2, fun i p hp => ?_⟩
    have hz := List.getElem?_zip_eq_some.1 hp
    refine ⟨?_, ho i p.1 p.2 hz.1 hz.2⟩
    obtain ⟨ad', cap', e, ha⟩ := h.ow.li.at_ i [p.1] (by unfold vr; rw [List.getElem?_map, hz.1]; rfl)
    rw [h1, hml] at e
    cases e
    have := ha 0 _ rfl
    rw [Nat.mul_one, addr_add, Nat.add_zero] at this
    exact this
theorem Spl.parts {W : World} {b g : Nat} {vs : List Value} {ls : List (List UInt8)} (h : Spl W b g vs ls) : Parts W (.slice (some ⟨g, 0, none⟩) ls.length ls.length) (vs.zip ls) := by
  have hzl : (vs.zip ls).length = ls.length := by rw [List.length_zip, h.ln, Nat.min_self]
  refine .inr ⟨⟨g, 0, none⟩, ls.length, by rw [hzl], by rw [hzl]; exact Nat.le_refl _, fun i p hp => ?_⟩
  have hz := List.getElem?_zip_eq_some.1 hp
  refine ⟨?_, (h.ob i p.1 p.2 hz.1 hz.2).has⟩
  rw [add_plain]
  exact (h.bl.cell i).trans hz.1
theorem both_parts {W : World} {b g : Nat} {vs vs' : List Value} {id : Nat} {T : List UInt8} {b' : Nat} {u : Value} (h : Spl W b g vs (spP id T)) (h' : Lb 24 1 W b' u (vr vs')) (hl : vs'.length = cnt T) (ho : ∀ (i : Nat) x, vs'[i]? = some x → Ob W b' x (ptB id T i)) (hT : T.length ≤ 31808) : ∃ pa pb, Parts W (.slice (some ⟨g, 0, none⟩) (cnt T) (cnt T)) pa ∧ Parts W u pb ∧ pa.map (·.2) = pb.map (·.2) ∧ pa.length ≤ 1000 := by
  have hs : (spP id T).length = cnt T := by simp [spP]
  have h1 := h.parts
  rw [hs] at h1
  refine ⟨_, _, h1, h'.parts (ls := spP id T) (by rw [hs, hl]) (fun i x l hx hl' => ?_), ?_, ?_⟩
  · have hi : i < cnt T := by rw [← hl]; exact (List.getElem?_eq_some_iff.1 hx).1
    rw [sp_at hi] at hl'
    cases hl'
    exact (ho i x hx).has
  · rw [List.map_snd_zip (by rw [h.ln]; exact Nat.le_refl _), List.map_snd_zip (by rw [hs, hl]; exact Nat.le_refl _)]
  · rw [List.length_zip, h.ln, Nat.min_self, hs]
    have := cnt_le hT
    omega
set_option maxRecDepth 100000 in
set_option maxHeartbeats 16000000 in
theorem step6y {w0 w : World} {p r : Nat} {E : List Me} {c : Nat} {q : Nat} {v : Value} {L : List Rp} {most : Nat} (D : Dk w0 w p r E c q v L most) (a : List UInt8) (id : Nat) (hid : id < 4294967296) (bv : Value) (bs : List UInt8) (hb : Has w0 bv bs) (hl : bs.length ≤ 140737488355328) (hT : bs.length ≤ 31808) : Calls Tryd.prog 17 #[.pointer (some ⟨p, 0, none⟩), .pointer (some ⟨q, 0, none⟩), (Ox.mk 6 a id bv).v] w fun e w' => e = .returned (.bool true) ∧ ∃ E' c' v' L', Dk w0 w' p r E' c' q v' L' most := by
  refine calls_of_args [.pointer (some ⟨p, 0, none⟩), .pointer (some ⟨q, 0, none⟩), (Ox.mk 6 a id bv).v] Tryd.func17 rfl 214 Tryd.ntmps17 (by show 3 ≤ 214; decide) ?_
  refine EW.seq ?_
  refine EW.region ?_
  obtain ⟨w1, q5, rb5, b5, l1, hq5⟩ := box_any 51 (Ox.mk 6 a id bv).cs w
  refine WL.box rfl rfl rfl rb5 ?_
  have D1 := D.on l1
  have hb1 := hb.below D1.be
  first | refine WL.assign rfl rfl rfl ?_
  refine WL.done ?_
  refine EW.on ?_
  refine EW.seq ?_
  refine EW.region ?_
  refine WL.bslN [] rfl rfl rfl (bsl22n _) ?_
  have l15 := below_new w1 (.cells #[] 5)
  refine WL.field rfl rfl rfl (g51_3 _ _) ?_
  refine WL.load rfl rfl rfl (ldS (b5.on l15) rfl) ?_
  obtain ⟨ow, w2, r2, ow2, be2⟩ := copy_new hb1 hl 24
  refine WL.app rfl rfl rfl rfl r2 ?_
  have D2 := D1.on be2
  have b52 := b5.on be2
  have hb2 := hb.below D2.be
  have oo := ow2.ob
  have LL2 : L.length ≤ 64 := by rw [D.rel.len]; have := D.le; have := D.m64; omega
  first | refine WL.assign rfl rfl rfl ?_
  refine WL.done ?_
  refine EW.on ?_
  refine EW.seq ?_
  refine EW.seq ?_
  refine EW.region ?_
  refine WL.field rfl rfl rfl (g51_0 _ _) ?_
  refine WL.load rfl rfl rfl (ldI b52 rfl) ?_
  refine WL.done ?_
  refine EW.on ?_
  refine EW.block ?_
  refine EW.seq ?_
  refine EW.region ?_
  first | refine WL.bin rfl rfl rfl rfl (int_eq_t rfl _ _ _) ?_ | refine WL.bin rfl rfl rfl rfl (int_eq_t ‹_› _ _ _) ?_ | refine WL.bin rfl rfl rfl rfl (int_eq_f ‹_› _ _ _) ?_ | refine WL.bin rfl rfl rfl rfl (int_eq_d _ _ _ _ _) ?_
  first | refine WL.assign rfl rfl rfl ?_
  refine WL.done ?_
  refine EW.on ?_
  refine EW.cond_f rfl ?_
  refine EW.seq ?_
  refine EW.region ?_
  first | refine WL.bin rfl rfl rfl rfl (int_eq_t rfl _ _ _) ?_ | refine WL.bin rfl rfl rfl rfl (int_eq_t ‹_› _ _ _) ?_ | refine WL.bin rfl rfl rfl rfl (int_eq_f ‹_› _ _ _) ?_ | refine WL.bin rfl rfl rfl rfl (int_eq_d _ _ _ _ _) ?_
  first | refine WL.assign rfl rfl rfl ?_
  refine WL.done ?_
  refine EW.on ?_
  refine EW.cond_f rfl ?_
  refine EW.seq ?_
  refine EW.region ?_
  first | refine WL.bin rfl rfl rfl rfl (int_eq_t rfl _ _ _) ?_ | refine WL.bin rfl rfl rfl rfl (int_eq_t ‹_› _ _ _) ?_ | refine WL.bin rfl rfl rfl rfl (int_eq_f ‹_› _ _ _) ?_ | refine WL.bin rfl rfl rfl rfl (int_eq_d _ _ _ _ _) ?_
  first | refine WL.assign rfl rfl rfl ?_
  refine WL.done ?_
  refine EW.on ?_
  refine EW.cond_f rfl ?_
  refine EW.seq ?_
  refine EW.region ?_
  first | refine WL.bin rfl rfl rfl rfl (int_eq_t rfl _ _ _) ?_ | refine WL.bin rfl rfl rfl rfl (int_eq_t ‹_› _ _ _) ?_ | refine WL.bin rfl rfl rfl rfl (int_eq_f ‹_› _ _ _) ?_ | refine WL.bin rfl rfl rfl rfl (int_eq_d _ _ _ _ _) ?_
  first | refine WL.assign rfl rfl rfl ?_
  refine WL.done ?_
  refine EW.on ?_
  refine EW.cond_f rfl ?_
  refine EW.seq ?_
  refine EW.region ?_
  first | refine WL.bin rfl rfl rfl rfl (int_eq_t rfl _ _ _) ?_ | refine WL.bin rfl rfl rfl rfl (int_eq_t ‹_› _ _ _) ?_ | refine WL.bin rfl rfl rfl rfl (int_eq_f ‹_› _ _ _) ?_ | refine WL.bin rfl rfl rfl rfl (int_eq_d _ _ _ _ _) ?_
  first | refine WL.assign rfl rfl rfl ?_
  refine WL.done ?_
  refine EW.on ?_
  refine EW.cond_f rfl ?_
  refine EW.seq ?_
  refine EW.region ?_
  first | refine WL.bin rfl rfl rfl rfl (int_eq_t rfl _ _ _) ?_ | refine WL.bin rfl rfl rfl rfl (int_eq_t ‹_› _ _ _) ?_ | refine WL.bin rfl rfl rfl rfl (int_eq_f ‹_› _ _ _) ?_ | refine WL.bin rfl rfl rfl rfl (int_eq_d _ _ _ _ _) ?_
  first | refine WL.assign rfl rfl rfl ?_
  refine WL.done ?_
  refine EW.on ?_
  refine EW.cond_t rfl ?_
  refine EW.seq ?_
  refine EW.region ?_
  first | refine WL.field rfl rfl rfl (g51_2 _ _) ?_ | refine WL.skip _ rfl rfl rfl ?_
  first | refine WL.load rfl rfl rfl (ldU2 b52 rfl) ?_ | refine WL.skip _ rfl rfl rfl ?_
  first | refine WL.move rfl rfl rfl ?_
  refine WL.call [u32v id, ow] enter8 rfl rfl rfl (split_ok id ow bs w2 oo.has hT D2.ks) ?_
  rintro _ w3 ⟨g3, vs3, rfl, sp3, l3⟩
  refine ⟨_, rfl, ?_⟩
  have b53 := b52.on l3
  have D3 := D2.on l3
  have hb3 := hb.below D3.be
  first | refine WL.move rfl rfl rfl ?_
  first | refine WL.extract rfl rfl rfl (ext_2 _ _ _).1 ?_
  first | refine WL.extract rfl rfl rfl (ext_2 _ _ _).2 ?_
  first | refine WL.assign rfl rfl rfl ?_
  first | refine WL.assign rfl rfl rfl ?_
  refine WL.done ?_
  refine EW.on ?_
  refine EW.seq ?_
  refine EW.region ?_
  first | refine WL.field rfl rfl rfl (g51_2 _ _) ?_ | refine WL.skip _ rfl rfl rfl ?_
  first | refine WL.load rfl rfl rfl (ldU2 b53 rfl) ?_ | refine WL.skip _ rfl rfl rfl ?_
  first | refine WL.field rfl rfl rfl (g51_3 _ _) ?_ | refine WL.skip _ rfl rfl rfl ?_
  first | refine WL.load rfl rfl rfl (ldS b53 rfl) ?_ | refine WL.skip _ rfl rfl rfl ?_
  refine WL.call [u32v id, bv] enter35 rfl rfl rfl (rsplit_ok id bv bs w3 hb3 hT D3.rs D3.bs) ?_
  rintro _ w4 ⟨u4, vs4, rfl, lb4, ln4, ob4, l4⟩
  refine ⟨_, rfl, ?_⟩
  have b54 := b53.on l4
  have D4 := D3.on l4
  obtain ⟨pa, pb, hpa, hpb, he, hln⟩ := both_parts (sp3.on l4) lb4 ln4 ob4 hT
  first | refine WL.move rfl rfl rfl ?_
  first | refine WL.extract rfl rfl rfl (ext_2 _ _ _).1 ?_
  first | refine WL.extract rfl rfl rfl (ext_2 _ _ _).2 ?_
  first | refine WL.assign rfl rfl rfl ?_
  first | refine WL.assign rfl rfl rfl ?_
  refine WL.done ?_
  refine EW.on ?_
  refine EW.seq ?_
  refine EW.region ?_
  first | refine WL.move rfl rfl rfl ?_
  first | refine WL.move rfl rfl rfl ?_
  refine WL.call [_, u4] enter15 rfl rfl rfl (same_any _ u4 pa pb w4 hpa hpb he hln) ?_
  rintro _ w5 ⟨rfl, l5⟩
  refine ⟨_, rfl, ?_⟩
  have D5 := D4.on l5
  have b55 := b54.on l5
  have o5 := ((oo.below l3).below l4).below l5
  have hb5 := hb.below D5.be
  first | refine WL.move rfl rfl rfl ?_
  first | refine WL.move rfl rfl rfl ?_ | refine WL.skip _ rfl rfl rfl ?_
  first | refine WL.move rfl rfl rfl ?_ | refine WL.skip _ rfl rfl rfl ?_
  first | refine WL.bin rfl rfl rfl rfl (int_eq_t rfl _ _ _) ?_ | refine WL.bin rfl rfl rfl rfl (int_eq_t ‹_› _ _ _) ?_ | refine WL.bin rfl rfl rfl rfl (int_eq_f ‹_› _ _ _) ?_ | refine WL.bin rfl rfl rfl rfl (int_eq_d _ _ _ _ _) ?_ | refine WL.skip _ rfl rfl rfl ?_
  first | refine WL.pick rfl rfl rfl rfl ?_
  first | refine WL.move rfl rfl rfl ?_
  first | refine WL.move rfl rfl rfl ?_ | refine WL.skip _ rfl rfl rfl ?_
  refine WL.conv rfl rfl rfl (o5.has.convert) ?_
  first | refine WL.field rfl rfl rfl (g51_3 _ _) ?_ | refine WL.skip _ rfl rfl rfl ?_
  first | refine WL.load rfl rfl rfl (ldS b55 rfl) ?_ | refine WL.skip _ rfl rfl rfl ?_
  refine WL.conv rfl rfl rfl (hb5.convert) ?_
  refine WL.bin rfl rfl rfl rfl (str_eq_s _ _ _ _ _) ?_
  rw [show decide (bs = bs) = true by simp]
  first | refine WL.pick rfl rfl rfl rfl ?_
  first | refine WL.assign rfl rfl rfl ?_
  refine WL.done ?_
  refine EW.on ?_
  refine EW.ret ?_
  refine pr_block ?_
  refine pr_then ?_
  exact EW.returns Tryd.results17 rfl ⟨rfl, E, c, v, L, D5⟩
set_option maxRecDepth 100000 in
set_option maxHeartbeats 16000000 in
theorem step6n {w0 w : World} {p r : Nat} {E : List Me} {c : Nat} {q : Nat} {v : Value} {L : List Rp} {most : Nat} (D : Dk w0 w p r E c q v L most) (a : List UInt8) (id : Nat) (hid : id < 4294967296) (bv : Value) (bs : List UInt8) (hb : Has w0 bv bs) (hl : bs.length ≤ 140737488355328) (hT : ¬ bs.length ≤ 31808) : Calls Tryd.prog 17 #[.pointer (some ⟨p, 0, none⟩), .pointer (some ⟨q, 0, none⟩), (Ox.mk 6 a id bv).v] w fun e w' => e = .returned (.bool true) ∧ ∃ E' c' v' L', Dk w0 w' p r E' c' q v' L' most := by
  refine calls_of_args [.pointer (some ⟨p, 0, none⟩), .pointer (some ⟨q, 0, none⟩), (Ox.mk 6 a id bv).v] Tryd.func17 rfl 214 Tryd.ntmps17 (by show 3 ≤ 214; decide) ?_
  refine EW.seq ?_
  refine EW.region ?_
  obtain ⟨w1, q5, rb5, b5, l1, hq5⟩ := box_any 51 (Ox.mk 6 a id bv).cs w
  refine WL.box rfl rfl rfl rb5 ?_
  have D1 := D.on l1
  have hb1 := hb.below D1.be
  first | refine WL.assign rfl rfl rfl ?_
  refine WL.done ?_
  refine EW.on ?_
  refine EW.seq ?_
  refine EW.region ?_
  refine WL.bslN [] rfl rfl rfl (bsl22n _) ?_
  have l15 := below_new w1 (.cells #[] 5)
  refine WL.field rfl rfl rfl (g51_3 _ _) ?_
  refine WL.load rfl rfl rfl (ldS (b5.on l15) rfl) ?_
  obtain ⟨ow, w2, r2, ow2, be2⟩ := copy_new hb1 hl 24
  refine WL.app rfl rfl rfl rfl r2 ?_
  have D2 := D1.on be2
  have b52 := b5.on be2
  have hb2 := hb.below D2.be
  have oo := ow2.ob
  have LL2 : L.length ≤ 64 := by rw [D.rel.len]; have := D.le; have := D.m64; omega
  first | refine WL.assign rfl rfl rfl ?_
  refine WL.done ?_
  refine EW.on ?_
  refine EW.seq ?_
  refine EW.seq ?_
  refine EW.region ?_
  refine WL.field rfl rfl rfl (g51_0 _ _) ?_
  refine WL.load rfl rfl rfl (ldI b52 rfl) ?_
  refine WL.done ?_
  refine EW.on ?_
  refine EW.block ?_
  refine EW.seq ?_
  refine EW.region ?_
  first | refine WL.bin rfl rfl rfl rfl (int_eq_t rfl _ _ _) ?_ | refine WL.bin rfl rfl rfl rfl (int_eq_t ‹_› _ _ _) ?_ | refine WL.bin rfl rfl rfl rfl (int_eq_f ‹_› _ _ _) ?_ | refine WL.bin rfl rfl rfl rfl (int_eq_d _ _ _ _ _) ?_
  first | refine WL.assign rfl rfl rfl ?_
  refine WL.done ?_
  refine EW.on ?_
  refine EW.cond_f rfl ?_
  refine EW.seq ?_
  refine EW.region ?_
  first | refine WL.bin rfl rfl rfl rfl (int_eq_t rfl _ _ _) ?_ | refine WL.bin rfl rfl rfl rfl (int_eq_t ‹_› _ _ _) ?_ | refine WL.bin rfl rfl rfl rfl (int_eq_f ‹_› _ _ _) ?_ | refine WL.bin rfl rfl rfl rfl (int_eq_d _ _ _ _ _) ?_
  first | refine WL.assign rfl rfl rfl ?_
  refine WL.done ?_
  refine EW.on ?_
  refine EW.cond_f rfl ?_
  refine EW.seq ?_
  refine EW.region ?_
  first | refine WL.bin rfl rfl rfl rfl (int_eq_t rfl _ _ _) ?_ | refine WL.bin rfl rfl rfl rfl (int_eq_t ‹_› _ _ _) ?_ | refine WL.bin rfl rfl rfl rfl (int_eq_f ‹_› _ _ _) ?_ | refine WL.bin rfl rfl rfl rfl (int_eq_d _ _ _ _ _) ?_
  first | refine WL.assign rfl rfl rfl ?_
  refine WL.done ?_
  refine EW.on ?_
  refine EW.cond_f rfl ?_
  refine EW.seq ?_
  refine EW.region ?_
  first | refine WL.bin rfl rfl rfl rfl (int_eq_t rfl _ _ _) ?_ | refine WL.bin rfl rfl rfl rfl (int_eq_t ‹_› _ _ _) ?_ | refine WL.bin rfl rfl rfl rfl (int_eq_f ‹_› _ _ _) ?_ | refine WL.bin rfl rfl rfl rfl (int_eq_d _ _ _ _ _) ?_
  first | refine WL.assign rfl rfl rfl ?_
  refine WL.done ?_
  refine EW.on ?_
  refine EW.cond_f rfl ?_
  refine EW.seq ?_
  refine EW.region ?_
  first | refine WL.bin rfl rfl rfl rfl (int_eq_t rfl _ _ _) ?_ | refine WL.bin rfl rfl rfl rfl (int_eq_t ‹_› _ _ _) ?_ | refine WL.bin rfl rfl rfl rfl (int_eq_f ‹_› _ _ _) ?_ | refine WL.bin rfl rfl rfl rfl (int_eq_d _ _ _ _ _) ?_
  first | refine WL.assign rfl rfl rfl ?_
  refine WL.done ?_
  refine EW.on ?_
  refine EW.cond_f rfl ?_
  refine EW.seq ?_
  refine EW.region ?_
  first | refine WL.bin rfl rfl rfl rfl (int_eq_t rfl _ _ _) ?_ | refine WL.bin rfl rfl rfl rfl (int_eq_t ‹_› _ _ _) ?_ | refine WL.bin rfl rfl rfl rfl (int_eq_f ‹_› _ _ _) ?_ | refine WL.bin rfl rfl rfl rfl (int_eq_d _ _ _ _ _) ?_
  first | refine WL.assign rfl rfl rfl ?_
  refine WL.done ?_
  refine EW.on ?_
  refine EW.cond_t rfl ?_
  refine EW.seq ?_
  refine EW.region ?_
  first | refine WL.field rfl rfl rfl (g51_2 _ _) ?_ | refine WL.skip _ rfl rfl rfl ?_
  first | refine WL.load rfl rfl rfl (ldU2 b52 rfl) ?_ | refine WL.skip _ rfl rfl rfl ?_
  first | refine WL.move rfl rfl rfl ?_
  refine WL.call [u32v id, ow] enter8 rfl rfl rfl (split_no id ow bs w2 oo.has (by omega)) ?_
  rintro _ w3 ⟨rfl, hw3⟩
  refine ⟨_, rfl, ?_⟩
  rw [hw3]
  have b53 := b52
  first | refine WL.move rfl rfl rfl ?_
  first | refine WL.extract rfl rfl rfl (ext_2 _ _ _).1 ?_
  first | refine WL.extract rfl rfl rfl (ext_2 _ _ _).2 ?_
  first | refine WL.assign rfl rfl rfl ?_
  first | refine WL.assign rfl rfl rfl ?_
  refine WL.done ?_
  refine EW.on ?_
  refine EW.seq ?_
  refine EW.region ?_
  first | refine WL.field rfl rfl rfl (g51_2 _ _) ?_ | refine WL.skip _ rfl rfl rfl ?_
  first | refine WL.load rfl rfl rfl (ldU2 b53 rfl) ?_ | refine WL.skip _ rfl rfl rfl ?_
  first | refine WL.field rfl rfl rfl (g51_3 _ _) ?_ | refine WL.skip _ rfl rfl rfl ?_
  first | refine WL.load rfl rfl rfl (ldS b53 rfl) ?_ | refine WL.skip _ rfl rfl rfl ?_
  refine WL.call [u32v id, bv] enter35 rfl rfl rfl (rsplit_no id bv bs w2 hb2 (by omega)) ?_
  rintro _ w4 ⟨rfl, hw4⟩
  refine ⟨_, rfl, ?_⟩
  rw [hw4]
  have b54 := b52
  have D4 := D2
  have hpa : Parts w2 (.slice none 0 0) [] := .inl ⟨rfl, rfl⟩
  first | refine WL.move rfl rfl rfl ?_
  first | refine WL.extract rfl rfl rfl (ext_2 _ _ _).1 ?_
  first | refine WL.extract rfl rfl rfl (ext_2 _ _ _).2 ?_
  first | refine WL.assign rfl rfl rfl ?_
  first | refine WL.assign rfl rfl rfl ?_
  refine WL.done ?_
  refine EW.on ?_
  refine EW.seq ?_
  refine EW.region ?_
  first | refine WL.move rfl rfl rfl ?_
  first | refine WL.move rfl rfl rfl ?_
  refine WL.call [.slice none 0 0, .slice none 0 0] enter15 rfl rfl rfl (same_any _ _ [] [] w2 hpa hpa rfl (by simp)) ?_
  rintro _ w5 ⟨rfl, l5⟩
  refine ⟨_, rfl, ?_⟩
  have D5 := D4.on l5
  have b55 := b54.on l5
  have o5 := oo.below l5
  have hb5 := hb.below D5.be
  first | refine WL.move rfl rfl rfl ?_
  first | refine WL.move rfl rfl rfl ?_ | refine WL.skip _ rfl rfl rfl ?_
  first | refine WL.move rfl rfl rfl ?_ | refine WL.skip _ rfl rfl rfl ?_
  first | refine WL.bin rfl rfl rfl rfl (int_eq_t rfl _ _ _) ?_ | refine WL.bin rfl rfl rfl rfl (int_eq_t ‹_› _ _ _) ?_ | refine WL.bin rfl rfl rfl rfl (int_eq_f ‹_› _ _ _) ?_ | refine WL.bin rfl rfl rfl rfl (int_eq_d _ _ _ _ _) ?_ | refine WL.skip _ rfl rfl rfl ?_
  first | refine WL.pick rfl rfl rfl rfl ?_
  first | refine WL.move rfl rfl rfl ?_
  first | refine WL.move rfl rfl rfl ?_ | refine WL.skip _ rfl rfl rfl ?_
  refine WL.conv rfl rfl rfl (o5.has.convert) ?_
  first | refine WL.field rfl rfl rfl (g51_3 _ _) ?_ | refine WL.skip _ rfl rfl rfl ?_
  first | refine WL.load rfl rfl rfl (ldS b55 rfl) ?_ | refine WL.skip _ rfl rfl rfl ?_
  refine WL.conv rfl rfl rfl (hb5.convert) ?_
  refine WL.bin rfl rfl rfl rfl (str_eq_s _ _ _ _ _) ?_
  rw [show decide (bs = bs) = true by simp]
  first | refine WL.pick rfl rfl rfl rfl ?_
  first | refine WL.assign rfl rfl rfl ?_
  refine WL.done ?_
  refine EW.on ?_
  refine EW.ret ?_
  refine pr_block ?_
  refine pr_then ?_
  exact EW.returns Tryd.results17 rfl ⟨rfl, E, c, v, L, D5⟩
theorem step_any {w0 w : World} {p r : Nat} {E : List Me} {c : Nat} {q : Nat} {v : Value} {L : List Rp} {most : Nat} (D : Dk w0 w p r E c q v L most) (o : Ox) (hid : o.id < 4294967296) (bs : List UInt8) (hb : Has w0 o.bv bs) (hl : bs.length ≤ 140737488355328) : Calls Tryd.prog 17 #[.pointer (some ⟨p, 0, none⟩), .pointer (some ⟨q, 0, none⟩), o.v] w fun e w' => e = .returned (.bool true) ∧ ∃ E' c' v' L', Dk w0 w' p r E' c' q v' L' most := by
  obtain ⟨k, a, id, bv⟩ := o
  by_cases h1 : k = 1
  · subst h1; exact step1 D a id hid bv bs hb hl
  by_cases h2 : k = 2
  · subst h2; exact step2 D a id hid bv bs hb hl
  by_cases h3 : k = 3
  · subst h3; exact step3 D a id hid bv bs hb hl
  by_cases h4 : k = 4
  · subst h4; exact step4 D a id hid bv bs hb hl
  by_cases h5 : k = 5
  · subst h5; exact step5 D a id hid bv bs hb hl
  by_cases h6 : k = 6
  · subst h6
    by_cases hT : bs.length ≤ 31808
    · exact step6y D a id hid bv bs hb hl hT
    · exact step6n D a id hid bv bs hb hl hT
  · exact step_e D a id hid bv bs hb hl k h1 h2 h3 h4 h5 h6
end Go.Proofs.YtiefgmgjlhjjhaaDoor
