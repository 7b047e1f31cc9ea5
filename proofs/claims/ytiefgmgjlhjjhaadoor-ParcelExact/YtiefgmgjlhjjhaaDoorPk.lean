import Derived.Test.YtiefgmgjlhjjhaaDoorPj
set_option linter.unusedVariables false
set_option linter.unusedSimpArgs false
namespace Go.Proofs.YtiefgmgjlhjjhaaDoor
open Go.RowKit

/-- A parcel that is there, for those who name it. -/
def fdR (E : List Me) (a : List UInt8) (id : Nat) : Pc × Int :=
  if nmB a then (match lkE E a id with | none => (Pc.z, 201) | some c => (c, 0)) else (Pc.z, 212)
theorem fd_ok {E : List Me} {a : List UInt8} {id : Nat} (h : (fdR E a id).2 = 0) : nmB a = true ∧ lkE E a id = some (fdR E a id).1 := by
  unfold fdR at h ⊢
  split at h
  · rename_i hn
    refine ⟨hn, ?_⟩
    rw [if_pos hn]
    cases hk : lkE E a id with
    | none => rw [hk] at h; cases h
    | some c => rfl
  · cases h
theorem lk_sh {w : World} {p r most : Nat} {E : List Me} {c0 : Nat} (ht : Tr w p r most E c0) {a : List UInt8} {n : Nat} {c : Pc} (h : lkE E a n = some c) : c.sh ∧ c.hs w ∧ 1 ≤ c.n := by
  obtain ⟨m, hm, hmc, _, _⟩ := lk_mem h
  exact ⟨hmc ▸ ht.mp.ok m hm, hmc ▸ ht.hs m hm, hmc ▸ ht.n1 m hm⟩
theorem fd_sh {w : World} {p r most : Nat} {E : List Me} {c0 : Nat} (ht : Tr w p r most E c0) (a : List UInt8) (n : Nat) : (fdR E a n).1.sh := by
  unfold fdR
  split
  · cases hk : lkE E a n with
    | none => exact Pc.z_sh
    | some c => exact (lk_sh ht hk).1
  · exact Pc.z_sh
set_option maxRecDepth 100000 in
set_option maxHeartbeats 4000000 in
theorem find_any (p r most : Nat) (E : List Me) (c0 : Nat) (a : List UInt8) (id : Nat) (w : World) (ht : Tr w p r most E c0) : Calls Tryd.prog 28 #[.pointer (some ⟨p, 0, none⟩), sv a, u32v id] w fun e w' => e = .returned (.tuple #[(fdR E a id).1.val, .int .i64 (fdR E a id).2]) ∧ Below w.heap.size w w' := by
  refine calls_of_args [.pointer (some ⟨p, 0, none⟩), sv a, u32v id] Tryd.func28 rfl 29 Tryd.ntmps28 (by show 3 ≤ 29; decide) ?_
  refine EW.seq ?_
  refine EW.region ?_
  obtain ⟨w1, q6, rn6, b6, l1, hq6⟩ := newB (cs := Pc.z.cs) zv71 w
  refine WL.new rfl rfl rn6 ?_
  have T1 := ht.on l1
  first | refine WL.assign rfl rfl rfl ?_
  refine WL.done ?_
  refine EW.on ?_
  refine EW.seq ?_
  refine EW.seq ?_
  refine EW.region ?_
  first | refine WL.move rfl rfl rfl ?_
  refine WL.call [sv a] enter21 rfl rfl rfl (name_any a _) ?_
  rintro _ wN ⟨rfl, hwN⟩
  refine ⟨_, rfl, ?_⟩
  rw [hwN]
  first | refine WL.un rfl rfl rfl (not_t _ _) ?_
  refine WL.done ?_
  refine EW.on ?_
  refine EW.cond_b rfl (fun h12 => ?_) (fun h12 => ?_)
  · replace h12 : nmB a = false := by simpa using h12
    refine EW.seq ?_
    refine EW.region ?_
    refine WL.build0 rfl rfl (bd71 _) ?_
    obtain ⟨w9, s9, b9, f9⟩ := st71 Pc.z_sh Pc.z_sh b6
    have LL := l1
    refine WL.store rfl rfl rfl s9 ?_
    first | refine WL.assign rfl rfl rfl ?_
    refine WL.done ?_
    refine EW.on ?_
    refine EW.ret ?_
    refine pr_then ?_
    exact EW.returnsCT Tryd.results28 rfl rfl b9 Tryd.underlying71 rfl (i71 Pc.z_sh) ⟨by unfold fdR; rw [if_neg (by rw [h12]; decide)]; rfl, LL.trans (f9.below (fun k hk e => by have e' : k = q6 := e; omega) LL.size)⟩
  · replace h12 : nmB a = true := by simpa using h12
    have hc : ((lkE E a id).getD Pc.z).sh := by
      cases hk : lkE E a id with
      | none => exact Pc.z_sh
      | some c => exact (lk_sh ht hk).1
    refine EW.skip ?_
    refine EW.on ?_
    refine EW.seq ?_
    refine EW.region ?_
    first | refine WL.move rfl rfl rfl ?_
    first | refine WL.nilc rfl rfl rfl ?_
    refine WL.field rfl rfl rfl (f61_1 _ _) ?_
    refine WL.load rfl rfl rfl (ldM T1.bl rfl) ?_
    first | refine WL.move rfl rfl rfl ?_
    first | refine WL.move rfl rfl rfl ?_
    refine WL.buildN [(0, sv a), (1, u32v id)] rfl rfl rfl (bd67 _ _ _) ?_
    refine WL.lk rfl rfl rfl rfl (run_lk T1.mp a id) ?_
    first | refine WL.move rfl rfl rfl ?_
    first | refine WL.extract rfl rfl rfl (ext_2 _ _ _).1 ?_
    first | refine WL.extract rfl rfl rfl (ext_2 _ _ _).2 ?_
    obtain ⟨w2, q8, rn8, b8, l2, hq8⟩ := newB (cs := Pc.z.cs) zv71 w1
    refine WL.new rfl rfl rn8 ?_
    have z6 := b6.lt
    obtain ⟨w3, s3, b3, f3⟩ := st71 hc Pc.z_sh b8
    refine WL.store rfl rfl rfl s3 ?_
    have D6 := (b6.on l2).fx f3 (fun e => by omega)
    have LL := (bt l1 l2).trans (f3.below (fun k hk e => by have e' : k = q8 := e; have := l1.size; omega) (bt l1 l2).size)
    first | refine WL.assign rfl rfl rfl ?_
    refine WL.done ?_
    refine EW.on ?_
    refine EW.seq ?_
    refine EW.seq ?_
    refine EW.region ?_
    first | refine WL.move rfl rfl rfl ?_
    first | refine WL.un rfl rfl rfl (not_t _ _) ?_
    refine WL.done ?_
    refine EW.on ?_
    refine EW.cond_b rfl (fun h26 => ?_) (fun h26 => ?_)
    · replace h26 : lkE E a id = none := by simpa using h26
      refine EW.seq ?_
      refine EW.region ?_
      refine WL.build0 rfl rfl (bd71 _) ?_
      obtain ⟨w9, s9, b9, f9⟩ := st71 Pc.z_sh Pc.z_sh D6
      refine WL.store rfl rfl rfl s9 ?_
      first | refine WL.assign rfl rfl rfl ?_
      refine WL.done ?_
      refine EW.on ?_
      refine EW.ret ?_
      refine pr_then ?_
      exact EW.returnsCT Tryd.results28 rfl rfl b9 Tryd.underlying71 rfl (i71 Pc.z_sh) ⟨by unfold fdR; rw [if_pos h12, h26]; rfl, LL.trans (f9.below (fun k hk e => by have e' : k = q6 := e; omega) LL.size)⟩
    · obtain ⟨c, hk⟩ : ∃ c, lkE E a id = some c := by
        cases hk : lkE E a id with
        | none => rw [hk] at h26; cases h26
        | some c => exact ⟨c, rfl⟩
      refine EW.skip ?_
      refine EW.on ?_
      refine EW.seq ?_
      refine EW.region ?_
      refine WL.load rfl rfl rfl (ld71 hc b3) ?_
      obtain ⟨w9, s9, b9, f9⟩ := st71 hc Pc.z_sh D6
      refine WL.store rfl rfl rfl s9 ?_
      first | refine WL.assign rfl rfl rfl ?_
      refine WL.done ?_
      refine EW.on ?_
      refine EW.ret ?_
      exact EW.returnsCT Tryd.results28 rfl rfl b9 Tryd.underlying71 rfl (i71 hc) ⟨by unfold fdR; rw [if_pos h12, hk]; rfl, LL.trans (f9.below (fun k hk e => by have e' : k = q6 := e; omega) LL.size)⟩
set_option maxRecDepth 100000 in
set_option maxHeartbeats 4000000 in
theorem missing_any (p r most : Nat) (E : List Me) (c0 : Nat) (a : List UInt8) (id : Nat) (w : World) (ht : Tr w p r most E c0) : Calls Tryd.prog 11 #[.pointer (some ⟨p, 0, none⟩), sv a, u32v id] w fun e w' => ∃ v, e = .returned (.tuple #[v, .int .i64 (fdR E a id).2]) ∧ ((fdR E a id).2 = 0 → Oi w' w.heap.size v (nI ((fdR E a id).1.mis (fdR E a id).1.n))) ∧ (¬ (fdR E a id).2 = 0 → v = .slice none 0 0) ∧ Below w.heap.size w w' := by
  have hc := fd_sh ht a id
  refine calls_of_args [.pointer (some ⟨p, 0, none⟩), sv a, u32v id] Tryd.func11 rfl 22 Tryd.ntmps11 (by show 3 ≤ 22; decide) ?_
  refine EW.seq ?_
  refine EW.region ?_
  first | refine WL.assign rfl rfl rfl ?_
  first | refine WL.assign rfl rfl rfl ?_
  refine WL.done ?_
  refine EW.on ?_
  refine EW.seq ?_
  refine EW.region ?_
  first | refine WL.move rfl rfl rfl ?_
  first | refine WL.move rfl rfl rfl ?_
  first | refine WL.move rfl rfl rfl ?_
  refine WL.call [.pointer (some ⟨p, 0, none⟩), sv a, u32v id] enter28 rfl rfl rfl (find_any p r most E c0 a id w ht) ?_
  rintro _ w1 ⟨rfl, l1⟩
  refine ⟨_, rfl, ?_⟩
  have T1 := ht.on l1
  first | refine WL.move rfl rfl rfl ?_
  first | refine WL.extract rfl rfl rfl (ext_2 _ _ _).1 ?_
  first | refine WL.extract rfl rfl rfl (ext_2 _ _ _).2 ?_
  obtain ⟨w2, q8, rn8, b8, l2, hq8⟩ := newB (cs := Pc.z.cs) zv71 w1
  refine WL.new rfl rfl rn8 ?_
  obtain ⟨w3, s3, b3, f3⟩ := st71 hc Pc.z_sh b8
  refine WL.store rfl rfl rfl s3 ?_
  have L3 := (bt l1 l2).trans (f3.below (fun k hk e => by have e' : k = q8 := e; have := l1.size; omega) (bt l1 l2).size)
  first | refine WL.assign rfl rfl rfl ?_
  refine WL.done ?_
  refine EW.on ?_
  refine EW.seq ?_
  refine EW.seq ?_
  refine EW.region ?_
  first | refine WL.move rfl rfl rfl ?_
  refine WL.bin rfl rfl rfl rfl (int_ne_d _ _ _ _ _) ?_
  refine WL.done ?_
  refine EW.on ?_
  refine EW.cond_d rfl (fun h18 => ?_) (fun h18 => ?_)
  · skip
    refine EW.seq ?_
    refine EW.region ?_
    first | refine WL.move rfl rfl rfl ?_
    first | refine WL.assign rfl rfl rfl ?_
    first | refine WL.assign rfl rfl rfl ?_
    refine WL.done ?_
    refine EW.on ?_
    refine EW.ret ?_
    refine pr_then ?_
    exact EW.returns2 Tryd.results11 rfl rfl ⟨_, rfl, fun h => absurd h h18, fun _ => rfl, L3⟩
  · replace h18 : (fdR E a id).2 = 0 := by simpa using h18
    refine EW.skip ?_
    refine EW.on ?_
    refine EW.seq ?_
    refine EW.region ?_
    refine WL.load rfl rfl rfl (ld71 hc b3) ?_
    refine WL.call [(fdR E a id).1.val] enter29 rfl rfl rfl (mis_any _ hc _) ?_
    rintro _ w4 ⟨v, rfl, o4, l4⟩
    refine ⟨_, rfl, ?_⟩
    first | refine WL.assign rfl rfl rfl ?_
    first | refine WL.assign rfl rfl rfl ?_
    refine WL.done ?_
    refine EW.on ?_
    refine EW.ret ?_
    exact EW.returns2 Tryd.results11 rfl rfl ⟨v, by rw [h18], fun _ => ⟨o4.ow, fun j hj => by have := o4.base j hj; have := L3.size; omega⟩, fun h => absurd h18 h, bt L3 l4⟩
/-- What Take answers. -/
def tkE (E : List Me) (a : List UInt8) (id : Nat) : Int := if (fdR E a id).2 = 0 then (if (fdR E a id).1.all then 0 else 261) else (fdR E a id).2
def tkL (E : List Me) (a : List UInt8) (id : Nat) : List Me := if tkE E a id = 0 then delE E a id else E
def tkT (E : List Me) (a : List UInt8) (id : Nat) : List UInt8 := if tkE E a id = 0 then (fdR E a id).1.txt else []
theorem Has.offM {w : World} {v : Value} {bs : List UInt8} (h : Has w v bs) {r : Nat} {es : Array MapEntry} {c : Nat} (hr : w.heap[r]? = some (.map es c)) : Off v bs r := by
  rcases h with ⟨rfl, rfl⟩ | ⟨ad, cap, rfl, h2, h3⟩
  · exact .inl rfl
  · cases bs with
    | nil => exact .inl rfl
    | cons u t =>
      right
      intro e
      simp only [Value.ownBlock, Option.some.injEq] at e
      have := h3 0 u rfl
      have hb : (ad.add 0).block = r := by rw [add_block]; exact e
      unfold World.cell? at this
      rw [hb, hr] at this
      cases this
theorem Tr.del {w w' : World} {p r most : Nat} {E E' : List Me} {c : Nat} (ht : Tr w p r most E c) (hs : E'.Sublist E) (hm : Mp w' r E' c) (hf : Fx (fun k => k = r) w w') : Tr w' p r most E' c := by
  have hpr : p ≠ r := fun e => by
    have h1 := ht.bl
    have h2 := ht.mp.hp
    rw [← e] at h2
    unfold Blk at h1
    rw [h1] at h2; cases h2
  have hB : ∀ m ∈ E, m.c.hs w' := fun m hm' => (ht.hs m hm').fx hf (fun k hk i v b hv hb => by
    have e : k = r := hk
    subst e
    refine (ht.hs m hm').has i v b hv hb |> fun h => ?_
    exact h.offM ht.mp.hp)
  exact ⟨ht.bl.fx hf hpr, hm, fun m hm' => hB m (hs.subset hm'), fun m hm' => ht.n1 m (hs.subset hm')⟩
set_option maxRecDepth 100000 in
set_option maxHeartbeats 4000000 in
theorem take_any' (p r most : Nat) (E : List Me) (c0 : Nat) (a : List UInt8) (id : Nat) (w : World) (ht : Tr w p r most E c0) : Calls Tryd.prog 12 #[.pointer (some ⟨p, 0, none⟩), sv a, u32v id] w fun e w' => ∃ v, e = .returned (.tuple #[v, .int .i64 (tkE E a id)]) ∧ Tr w' p r most (tkL E a id) c0 ∧ Ob w' w.heap.size v (tkT E a id) ∧ Fx (fun k => k = r) w w' := by
  have hc := fd_sh ht a id
  refine calls_of_args [.pointer (some ⟨p, 0, none⟩), sv a, u32v id] Tryd.func12 rfl 33 Tryd.ntmps12 (by show 3 ≤ 33; decide) ?_
  refine EW.seq ?_
  refine EW.region ?_
  first | refine WL.assign rfl rfl rfl ?_
  first | refine WL.assign rfl rfl rfl ?_
  refine WL.done ?_
  refine EW.on ?_
  refine EW.seq ?_
  refine EW.region ?_
  first | refine WL.move rfl rfl rfl ?_
  first | refine WL.move rfl rfl rfl ?_
  first | refine WL.move rfl rfl rfl ?_
  refine WL.call [.pointer (some ⟨p, 0, none⟩), sv a, u32v id] enter28 rfl rfl rfl (find_any p r most E c0 a id w ht) ?_
  rintro _ w1 ⟨rfl, l1⟩
  refine ⟨_, rfl, ?_⟩
  have T1 := ht.on l1
  first | refine WL.move rfl rfl rfl ?_
  first | refine WL.extract rfl rfl rfl (ext_2 _ _ _).1 ?_
  first | refine WL.extract rfl rfl rfl (ext_2 _ _ _).2 ?_
  obtain ⟨w2, q8, rn8, b8, l2, hq8⟩ := newB (cs := Pc.z.cs) zv71 w1
  refine WL.new rfl rfl rn8 ?_
  obtain ⟨w3, s3, b3, f3⟩ := st71 hc Pc.z_sh b8
  refine WL.store rfl rfl rfl s3 ?_
  have L3 := (bt l1 l2).trans (f3.below (fun k hk e => by have e' : k = q8 := e; have := l1.size; omega) (bt l1 l2).size)
  first | refine WL.assign rfl rfl rfl ?_
  refine WL.done ?_
  refine EW.on ?_
  refine EW.seq ?_
  refine EW.seq ?_
  refine EW.region ?_
  first | refine WL.move rfl rfl rfl ?_
  refine WL.bin rfl rfl rfl rfl (int_ne_d _ _ _ _ _) ?_
  refine WL.done ?_
  refine EW.on ?_
  refine EW.cond_d rfl (fun h18 => ?_) (fun h18 => ?_)
  · skip
    refine EW.seq ?_
    refine EW.region ?_
    first | refine WL.move rfl rfl rfl ?_
    first | refine WL.assign rfl rfl rfl ?_
    first | refine WL.assign rfl rfl rfl ?_
    refine WL.done ?_
    refine EW.on ?_
    refine EW.ret ?_
    refine pr_then ?_
    exact EW.returns2 Tryd.results12 rfl rfl ⟨_, by unfold tkE; rw [if_neg h18], by unfold tkL tkE; rw [if_neg h18, if_neg h18]; exact ht.on L3, by unfold tkT tkE; rw [if_neg h18, if_neg h18]; exact Ob.nil _ _, Fx.of_below L3⟩
  · replace h18 : (fdR E a id).2 = 0 := by simpa using h18
    refine EW.skip ?_
    refine EW.on ?_
    refine EW.seq ?_
    refine EW.seq ?_
    refine EW.region ?_
    refine WL.load rfl rfl rfl (ld71 hc b3) ?_
    refine WL.call [(fdR E a id).1.val] enter26 rfl rfl rfl (all_any _ hc _) ?_
    rintro _ w4 ⟨rfl, l4⟩
    refine ⟨_, rfl, ?_⟩
    have L4 := bt L3 l4
    have T4 := ht.on L4
    have b4 := b3.on l4
    first | refine WL.un rfl rfl rfl (not_t _ _) ?_
    refine WL.done ?_
    refine EW.on ?_
    refine EW.cond_b rfl (fun h22 => ?_) (fun h22 => ?_)
    · replace h22 : (fdR E a id).1.all = false := by simpa using h22
      refine EW.seq ?_
      refine EW.region ?_
      first | refine WL.assign rfl rfl rfl ?_
      first | refine WL.assign rfl rfl rfl ?_
      refine WL.done ?_
      refine EW.on ?_
      refine EW.ret ?_
      refine pr_then ?_
      exact EW.returns2 Tryd.results12 rfl rfl ⟨_, by unfold tkE; rw [if_pos h18, h22]; rfl, by unfold tkL tkE; rw [if_pos h18, h22]; exact T4, by unfold tkT tkE; rw [if_pos h18, h22]; exact Ob.nil _ _, Fx.of_below L4⟩
    · replace h22 : (fdR E a id).1.all = true := by simpa using h22
      have ke : tkE E a id = 0 := by unfold tkE; rw [if_pos h18, h22]; rfl
      refine EW.skip ?_
      refine EW.on ?_
      refine EW.seq ?_
      refine EW.region ?_
      first | refine WL.move rfl rfl rfl ?_
      first | refine WL.nilc rfl rfl rfl ?_
      refine WL.field rfl rfl rfl (f61_1 _ _) ?_
      refine WL.load rfl rfl rfl (ldM T4.bl rfl) ?_
      first | refine WL.move rfl rfl rfl ?_
      first | refine WL.move rfl rfl rfl ?_
      refine WL.buildN [(0, sv a), (1, u32v id)] rfl rfl rfl (bd67 _ _ _) ?_
      obtain ⟨w5, rd5, m5, f5⟩ := run_del T4.mp a id 0 67
      refine WL.del rfl rfl rfl rd5 ?_
      have T5 := T4.del (List.filter_sublist) m5 f5
      have b5 := b4.fx f5 (fun e => by have := ht.mp.ltb; have := l1.size; omega)
      have hh5 : (fdR E a id).1.hs w5 := by
        obtain ⟨m, hm, hmc, _, _⟩ := lk_mem (fd_ok h18).2
        rw [← hmc]
        exact (T4.hs m hm).fx f5 (fun k hk i v b hv hb => by have e : k = r := hk; subst e; exact ((T4.hs m hm).has i v b hv hb).offM T4.mp.hp)
      refine WL.done ?_
      refine EW.on ?_
      refine EW.seq ?_
      refine EW.region ?_
      refine WL.load rfl rfl rfl (ld71 hc b5) ?_
      refine WL.call [(fdR E a id).1.val] enter27 rfl rfl rfl (ord_any _ hc _ hh5) ?_
      rintro _ w6 ⟨v6, rfl, p6, l6⟩
      refine ⟨_, rfl, ?_⟩
      refine WL.call [v6] enter30 rfl rfl rfl (join_any _ _ _ p6 (by rw [Pc.ps_txt hc]; have := Pc.txt_len hc hh5; omega) (by rw [Pc.ps_len hc]; have := hc.n2; omega)) ?_
      rintro _ w7 ⟨v7, rfl, o7, l7⟩
      refine ⟨_, rfl, ?_⟩
      first | refine WL.assign rfl rfl rfl ?_
      first | refine WL.assign rfl rfl rfl ?_
      refine WL.done ?_
      refine EW.on ?_
      refine EW.ret ?_
      exact EW.returns2 Tryd.results12 rfl rfl ⟨_, by rw [ke], by unfold tkL; rw [if_pos ke]; exact (T5.on l6).on l7, by unfold tkT; rw [if_pos ke, ← Pc.ps_txt hc]; exact o7.lower (by have := L4.size; have := f5.size; have := l6.size; omega), ((Fx.of_below L4).and f5).then_below (bt l6 l7)⟩
end Go.Proofs.YtiefgmgjlhjjhaaDoor
