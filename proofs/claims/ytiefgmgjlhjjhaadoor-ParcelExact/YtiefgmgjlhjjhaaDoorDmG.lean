import Derived.Test.YtiefgmgjlhjjhaaDoorDjG
set_option linter.unusedVariables false
set_option linter.unusedSimpArgs false
namespace Go.Proofs.YtiefgmgjlhjjhaaDoor
open Go.RowKit

attribute [local irreducible] sm sumOf cnt chk partB ptB lgL pM pI pN pA pS pC
theorem doc_take {E : List Me} {L : List Rp} (hrel : Rel E L) (hnd : (E.map fun m => (m.p, m.id)).Nodup) (hsh : ∀ m ∈ E, m.c.sh) (q : Nat) (v : Value) (most : Nat) (hL : L.length ≤ 1000000) (a : List UInt8) (id : Nat) (w : World) (ht : Rt w q v most L) : Calls Tryd.prog 32 #[.pointer (some ⟨q, 0, none⟩), sv a, u32v id] w fun e w' => ∃ u, e = .returned (.tuple #[u, .int .i64 (tkE E a id)]) ∧ Has w' u (tkT E a id) ∧ ∃ v' L', Rt w' q v' most L' ∧ Rel (tkL E a id) L' ∧ (∀ b, v'.ownBlock = some b → v.ownBlock = some b ∨ w.heap.size ≤ b) ∧ Fx (fun k => k = q ∨ v.ownBlock = some k) w w' := by
  have nil : ∀ er : Int, ¬ er = 0 → tkE E a id = er → ∀ (e : Ending) (w' : World), Below w.heap.size w w' → e = .returned (.tuple #[.slice none 0 0, .int .i64 er]) → ∃ u, e = .returned (.tuple #[u, .int .i64 (tkE E a id)]) ∧ Has w' u (tkT E a id) ∧ ∃ v' L', Rt w' q v' most L' ∧ Rel (tkL E a id) L' ∧ (∀ b, v'.ownBlock = some b → v.ownBlock = some b ∨ w.heap.size ≤ b) ∧ Fx (fun k => k = q ∨ v.ownBlock = some k) w w' := fun er he h e w' hb hE => by
    have hz : ¬ tkE E a id = 0 := by rw [h]; exact he
    refine ⟨_, by rw [h]; exact hE, by unfold tkT; rw [if_neg hz]; exact Has.nil _, v, L, ht.on hb, by unfold tkL; rw [if_neg hz]; exact hrel, fun b hb => .inl hb, Fx.of_below hb⟩
  cases hnm : nmB a with
  | false => exact (rtake_nm q v most L hL a id w ht hnm).mono fun e w' ⟨h1, h2⟩ => nil 212 (by decide) (by unfold tkE fdR; rw [hnm]; rfl) e w' (h2 ▸ Below.refl _ _) h1
  | true =>
  cases hk : lkE E a id with
  | none => exact (rtake_no q v most L hL a id w ht hnm (hrel.miss hk)).mono fun e w' ⟨h1, h2⟩ => nil 201 (by decide) (by unfold tkE fdR; rw [hnm, hk]; rfl) e w' (h2 ▸ Below.refl _ _) h1
  | some cc =>
    obtain ⟨ki, y, m, i1, i2, i3, i4, i5, i6, i7⟩ := hrel.hit hk
    have hf : fdR E a id = (cc, 0) := by unfold fdR; rw [hnm, hk]; rfl
    have hall : cc.all = rall y.h := by rw [← i4]; exact i5.all (hsh m (List.mem_of_getElem? i3))
    cases hal : rall y.h with
    | false => exact (rtake_part q v most L hL a id w ht hnm ki y i1 i2 hal).mono fun e w' ⟨h1, h2⟩ => nil 261 (by decide) (by unfold tkE; rw [hf]; show (if (0 : Int) = 0 then (if cc.all then (0 : Int) else 261) else 0) = 261; rw [if_pos rfl, hall, hal]; rfl) e w' h2 h1
    | true =>
      have hz : tkE E a id = 0 := by unfold tkE; rw [hf]; show (if (0 : Int) = 0 then (if cc.all then (0 : Int) else 261) else 0) = 0; rw [if_pos rfl, hall, hal]; rfl
      refine (rtake_ok q v most L hL a id w ht hnm ki y i1 i2 hal).mono fun e w' ⟨u, v', h1, h2, h3, h4, h5⟩ => ⟨u, by rw [hz]; exact h1, ?_, v', _, h3, ?_, fun b hb => .inr (h5 b hb), h4.weak (fun k e => .inl e)⟩
      · unfold tkT; rw [if_pos hz, hf]
        show Has w' u cc.txt
        rw [← i4, i5.txt]; exact h2.has
      · unfold tkL; rw [if_pos hz]; exact hrel.del hnd i1
theorem doc_miss {E : List Me} {L : List Rp} (hrel : Rel E L) (q : Nat) (v : Value) (most : Nat) (hL : L.length ≤ 1000000) (a : List UInt8) (id : Nat) (w : World) (ht : Rt w q v most L) : Calls Tryd.prog 33 #[.pointer (some ⟨q, 0, none⟩), sv a, u32v id] w fun e w' => ∃ u, e = .returned (.tuple #[u, .int .i64 (fdR E a id).2]) ∧ Hi w' u (if (fdR E a id).2 = 0 then nI ((fdR E a id).1.mis (fdR E a id).1.n) else []) ∧ Below w.heap.size w w' := by
  cases hnm : nmB a with
  | false =>
    have hf : fdR E a id = (Pc.z, 212) := by unfold fdR; rw [hnm]; rfl
    exact (rmiss_nm q v most L hL a id w ht hnm).mono fun e w' ⟨h1, h2⟩ => ⟨_, by rw [hf]; exact h1, by rw [hf]; exact Li.nil _ _, h2 ▸ Below.refl _ _⟩
  | true =>
  cases hk : lkE E a id with
  | none =>
    have hf : fdR E a id = (Pc.z, 201) := by unfold fdR; rw [hnm, hk]; rfl
    exact (rmiss_no q v most L hL a id w ht hnm (hrel.miss hk)).mono fun e w' ⟨h1, h2⟩ => ⟨_, by rw [hf]; exact h1, by rw [hf]; exact Li.nil _ _, h2 ▸ Below.refl _ _⟩
  | some cc =>
    obtain ⟨ki, y, m, i1, i2, i3, i4, i5, i6, i7⟩ := hrel.hit hk
    have hf : fdR E a id = (cc, 0) := by unfold fdR; rw [hnm, hk]; rfl
    refine (rmiss_ok q v most L hL a id w ht hnm ki y i1 i2).mono fun e w' ⟨u, h1, h2, h3⟩ => ⟨u, by rw [hf]; exact h1, ?_, h3⟩
    rw [hf]
    show Hi w' u (if (0 : Int) = 0 then nI (cc.mis cc.n) else [])
    rw [if_pos rfl, ← i4, ← i5.mis]; exact h2.hi
theorem dp_0 (L : List Rp) (a : List UInt8) : dpL L a 0 = L.filter (notR a) := by unfold dpL; simp
theorem Fx.orQ {q : Nat} {v : Value} {w w' : World} (h : Fx (fun k => k = q) w w') : Fx (fun k => k = q ∨ v.ownBlock = some k) w w' := h.weak (fun k e => .inl e)
/-- The two trays side by side. -/
structure Dk (w0 W : World) (p r : Nat) (E : List Me) (c : Nat) (q : Nat) (v : Value) (L : List Rp) (most : Nat) : Prop where
  tr : Tr W p r most E c
  rt : Rt W q v most L
  rel : Rel E L
  le : E.length ≤ most
  m64 : most ≤ 64
  ks : Kst W
  rs : Rst W
  bs : Bst W
  be : Below w0.heap.size w0 W
  hr : w0.heap.size ≤ r
  hq : w0.heap.size ≤ q
  hv : ∀ b, v.ownBlock = some b → w0.heap.size ≤ b
  tq : TrB E q
  tv : ∀ b, v.ownBlock = some b → TrB E b
  z3 : 2 < w0.heap.size
section
variable {w0 W W' : World} {p r : Nat} {E E' : List Me} {c c' : Nat} {q : Nat} {v v' : Value} {L L' : List Rp} {most : Nat}
theorem Dk.on (h : Dk w0 W p r E c q v L most) (hb : Below W.heap.size W W') : Dk w0 W' p r E c q v L most := ⟨h.tr.on hb, h.rt.on hb, h.rel, h.le, h.m64, h.ks.below hb h.ks.lt, h.rs.below hb h.rs.lt, h.bs.below hb h.bs.lt, bt h.be hb, h.hr, h.hq, h.hv, h.tq, h.tv, h.z3⟩
/-- The program's tray turns, then the document's. -/
theorem Dk.two {W1 : World} (h : Dk w0 W p r E c q v L most) (ht : Tr W1 p r most E' c') (f1 : Fx (fun k => k = r) W W1) (hT : ∀ k, k < W.heap.size → TrB E k → TrB E' k) (hr : Rt W' q v' most L') (f2 : Fx (fun k => k = q ∨ v.ownBlock = some k) W1 W') (nb : ∀ b, v'.ownBlock = some b → v.ownBlock = some b ∨ W1.heap.size ≤ b) (hrel : Rel E' L') (hle : E'.length ≤ most) : Dk w0 W' p r E' c' q v' L' most := by
  have rt1 := h.rt.fxM h.tr.mp.hp f1
  have hqb := h.rt.bl.lt
  have tq := hT q hqb h.tq
  have tv : ∀ b, v.ownBlock = some b → TrB E' b := fun b hb => hT b (h.rt.ow.lt hb) (h.tv b hb)
  have be1 := fxBe h.be f1 h.hr
  have be2 : Below w0.heap.size w0 W' := be1.trans (f2.below (fun k hk e => by
    rcases e with e | e
    · have := h.hq; omega
    · have := h.hv k e; omega) be1.size)
  have bW : Below w0.heap.size W W' := (f1.below (fun k hk e => by have e' : k = r := e; have := h.hr; omega) h.be.size).trans (f2.below (fun k hk e => by
    rcases e with e | e
    · have := h.hq; omega
    · have := h.hv k e; omega) be1.size)
  have tr2 : Tr W' p r most E' c' := ht.fx f2 (fun e => by
      rcases e with e | e
      · exact ht.bl.neT rt1.bl (by decide) e
      · exact rt1.ow.neB ht.bl (by decide) p e rfl) (fun e => by
      rcases e with e | e
      · exact rt1.bl.neM ht.mp.hp e.symm
      · exact rt1.ow.neM ht.mp.hp e) (fun k hk => by
      rcases hk with e | e
      · rw [e]; exact tq
      · exact tv k e)
  refine ⟨tr2, hr, hrel, hle, h.m64, h.ks.below (n := w0.heap.size) bW (by have := h.z3; omega), h.rs.below (n := w0.heap.size) bW h.z3, h.bs.below (n := w0.heap.size) bW (by have := h.z3; omega), be2, h.hr, h.hq, fun b hb => ?_, tq, fun b hb => ?_, h.z3⟩
  · rcases nb b hb with e | e
    · exact h.hv b e
    · have := be1.size; omega
  · rcases nb b hb with e | e
    · exact tv b e
    · exact ht.offNew e
end
end Go.Proofs.YtiefgmgjlhjjhaaDoor
set_option linter.unusedVariables false
set_option linter.unusedSimpArgs false
namespace Go.Proofs.YtiefgmgjlhjjhaaDoor
open Go.RowKit

attribute [local irreducible] sm sumOf cnt chk partB ptB lgL pM pI pN pA pS pC
theorem Ob.setAtF {w : World} {b : Nat} {v : Value} {bs : List UInt8} (h : Ob w b v bs) (i : Nat) (hi : i < bs.length) (u : UInt8) : ∃ ad w', (∀ W, (Instr.indexAt 24 v (.int .i64 (i : Int))).run Tryd.prog W = .ok (.pointer (some ad)) W) ∧ (Instr.storeAt 5 (.pointer (some ad)) (byt u)).run Tryd.prog w = .ok () w' ∧ Ob w' b v (bs.set i u) ∧ Fx (fun k => v.ownBlock = some k) w w' := by
  obtain ⟨hx, ⟨rfl, h0⟩ | ⟨g, cp, cur, rfl, hg, hh2, hnc, hc, hs, htk⟩⟩ := h.row
  · simp only [h0] at hi; omega
  · have hcur : i < cur.size := by simp at hs; omega
    have hcell : w.cell? ⟨g, i, none⟩ = some cur[i] := by
      have := (show Blk w g cur.toList 5 from by unfold Blk; simpa using hh2).cell i
      rw [this, Array.getElem?_toList, Array.getElem?_eq_getElem hcur]
    have hbl : Blk w g cur.toList 5 := by unfold Blk; simpa using hh2
    refine ⟨⟨g, i, none⟩, w.setCell ⟨g, i, none⟩ (byt u), fun W => ?_, st5 u hcell (hbl.frozen i), ?_, (Fx.setCell (S := fun k => k = g) _ _ _ _ rfl).mono (fun k _ e => by rw [show k = g from e]; rfl)⟩
    · have := idx24 ⟨g, 0, none⟩ bs.length cp i hi W
      rwa [add_plain] at this
    · refine ⟨⟨by simp, .inr ⟨g, cp, (cur.toList.set i (byt u)).toArray, by simp, hg, ?_, by simpa using hnc, hc, by simpa using hs, ?_⟩⟩, fun k hk => h.base k (by simpa [Value.ownBlock] using hk)⟩
      · have := hbl.set i (byt u)
        exact this
      · have e1 : (bs.set i u).map byt = (bs.map byt).set i (byt u) := by rw [List.map_set]
        rw [e1, List.length_set, ← htk]
        simp [List.take_set]

theorem xorB (u : UInt8) (W : World) (x y : Operand) : (do eqGuard .xor 5 x y (byt u) (.int .u8 85); binOp .xor 5 (byt u) (.int .u8 85) : Sem Value).run Tryd.prog W = .ok (byt (u ^^^ 85)) W := by
  have e := xor_u8 u 85
  unfold byt
  rw [← e]
  go_simp

def spE (va vb : Value) (i : Nat) : List (Nat × Value) := [(0, va), (1, vb), (5, .int .i64 (i : Int))]
structure SmR (w : World) (n i : Nat) (W : World) : Prop where
  le : i ≤ n
  be : Below w.heap.size w W
set_option maxRecDepth 100000 in
set_option maxHeartbeats 4000000 in
theorem same_any (va vb : Value) (pa pb : List (Value × List UInt8)) (w : World) (ha : Parts w va pa) (hb : Parts w vb pb) (he : pa.map (·.2) = pb.map (·.2)) (hl : pa.length ≤ 1000) : Calls Tryd.prog 15 #[va, vb] w fun e w' => e = .returned (.bool true) ∧ Below w.heap.size w w' := by
  obtain ⟨aoa, cpa, hva⟩ := ha.slice
  obtain ⟨aob, cpb, hvb⟩ := hb.slice
  have hln : pa.length = pb.length := by have := congrArg List.length he; simpa using this
  refine calls_of_args [va, vb] Tryd.func15 rfl 28 Tryd.ntmps15 (by show 2 ≤ 28; decide) ?_
  refine EW.seq ?_
  refine EW.region ?_
  first | refine WL.assign rfl rfl rfl ?_
  refine WL.done ?_
  refine EW.on ?_
  refine EW.seq ?_
  refine EW.seq ?_
  refine EW.region ?_
  first | refine WL.move rfl rfl rfl ?_
  rw [hva]
  refine WL.len rfl rfl rfl (len26 _ _ _ _ _) ?_
  rw [← hva]
  first | refine WL.move rfl rfl rfl ?_
  rw [hvb]
  refine WL.len rfl rfl rfl (len26 _ _ _ _ _) ?_
  rw [← hvb]
  refine WL.bin rfl rfl rfl rfl (int_ne_f (by rw [hln]) _ _ _) ?_
  refine WL.done ?_
  refine EW.on ?_
  refine EW.cond_f rfl ?_
  refine EW.skip ?_
  refine EW.on ?_
  refine EW.seq ?_
  refine EW.seq ?_
  refine EW.region ?_
  first | refine WL.assign rfl rfl rfl ?_
  refine WL.done ?_
  refine EW.on ?_
  refine EW.block ?_
  refine EW.loop (spE va vb) (SmR w pa.length) (fun i => pa.length - i) 0 [0, 1, 5] rfl ⟨Nat.zero_le _, Below.refl _ _⟩ ?_
  rintro i W hR
  show EW _ _ _ _ [(0, va), (1, vb), (5, .int .i64 (i : Int))] _
  have hle := hR.le
  have s1 : IntKind.i64.wrap ((i : Int) + 1) = ((i + 1 : Nat) : Int) := by rw [IntKind.wrap_i64]; omega
  refine EW.seq ?_
  refine EW.seq ?_
  refine EW.region ?_
  first | refine WL.move rfl rfl rfl ?_
  first | refine WL.move rfl rfl rfl ?_
  rw [hva]
  refine WL.len rfl rfl rfl (len26 _ _ _ _ _) ?_
  rw [← hva]
  refine WL.bin rfl rfl rfl rfl (int_lt_d _ _ _ _ _) ?_
  refine WL.done ?_
  refine EW.on ?_
  refine EW.cond_d rfl (fun h14 => ?_) (fun h14 => ?_)
  · have ht : i < pa.length := by omega
    have htb : i < pb.length := by omega
    obtain ⟨xa, hxa⟩ : ∃ xa, pa[i]? = some xa := ⟨_, List.getElem?_eq_getElem ht⟩
    obtain ⟨xb, hxb⟩ : ∃ xb, pb[i]? = some xb := ⟨_, List.getElem?_eq_getElem htb⟩
    have hab : xa.2 = xb.2 := by
      have h1 : (pa.map (·.2))[i]? = some xa.2 := by rw [List.getElem?_map, hxa]; rfl
      have h2 : (pb.map (·.2))[i]? = some xb.2 := by rw [List.getElem?_map, hxb]; rfl
      rw [he, h2] at h1
      exact (Option.some.inj h1).symm
    rcases (ha.on hR.be) with ⟨_, e0⟩ | ⟨ada, capa, ea, _, hca⟩
    · rw [e0] at ht; cases ht
    rcases (hb.on hR.be) with ⟨_, e0⟩ | ⟨adb, capb, eb, _, hcb⟩
    · rw [e0] at htb; cases htb
    have ca := hca i xa hxa
    have cb := hcb i xb hxb
    refine EW.skip ?_
    refine EW.on ?_
    refine EW.seq ?_
    refine EW.block ?_
    refine EW.seq ?_
    refine EW.ordB [(0, 0, 0), (1, 0, 0), (2, 0, 0), (3, 0, 1), (4, 0, 1), (5, 0, 0), (6, 0, 0), (7, 0, 0), (8, 0, 1), (9, 0, 1), (10, 0, 0)] (by kernel_rfl) rfl (by kernel_rfl) ?_
    simp only [opsZ, List.getD_cons_zero, List.getD_cons_succ]
    first | refine ZE.move rfl rfl rfl rfl sz0 ?_
    first | refine ZE.move rfl rfl rfl rfl sz0 ?_
    rw [ea]
    refine ZE.index rfl rfl rfl rfl rfl sz0 (fun W => x26 _ _ _ _ ht W) ?_
    rw [← ea]
    refine ZE.load rfl rfl rfl rfl sz1 (fun W hW => ldC (((hW.resolve_left (by decide)).cell (cell_lt ca.1)).trans ca.1)) ?_
    refine ZE.conv rfl rfl rfl rfl sz1 (fun W hW => (ca.2.below (hW.resolve_left (by decide))).convert) ?_
    first | refine ZE.move rfl rfl rfl rfl sz0 ?_
    first | refine ZE.move rfl rfl rfl rfl sz0 ?_
    rw [eb]
    refine ZE.index rfl rfl rfl rfl rfl sz0 (fun W => x26 _ _ _ _ htb W) ?_
    rw [← eb]
    refine ZE.load rfl rfl rfl rfl sz1 (fun W hW => ldC (((hW.resolve_left (by decide)).cell (cell_lt cb.1)).trans cb.1)) ?_
    refine ZE.conv rfl rfl rfl rfl sz1 (fun W hW => (cb.2.below (hW.resolve_left (by decide))).convert) ?_
    refine ZE.bin rfl rfl rfl rfl rfl sz0 (fun W => str_ne_d _ _ W _ _) ?_
    rw [show decide (¬ xa.2 = xb.2) = false by rw [decide_eq_false]; exact fun h => h hab]
    rintro W6 l6
    refine EW.on ?_
    refine EW.cond_f rfl ?_
    refine EW.skip ?_
    refine pn_block ?_
    refine EW.on ?_
    refine EW.region ?_
    first | refine WL.move rfl rfl rfl ?_
    first | refine WL.bin rfl rfl rfl rfl (int_add ‹_› _ _ _) ?_
    first | refine WL.assign rfl rfl rfl ?_
    refine WL.done ?_
    exact EW.again (i + 1) [0, 1, 5] rfl ⟨by omega, bt hR.be l6⟩ (by omega)
  · skip
    refine EW.exit ?_
    refine px_then ?_
    refine px_then ?_
    refine px_block ?_
    refine EW.on ?_
    refine EW.seq ?_
    refine EW.region ?_
    first | refine WL.assign rfl rfl rfl ?_
    refine WL.done ?_
    refine EW.on ?_
    refine EW.ret ?_
    exact EW.returns Tryd.results15 rfl ⟨rfl, hR.be⟩
section
variable {w0 W W' : World} {p r : Nat} {E : List Me} {c : Nat} {q : Nat} {v : Value} {L : List Rp} {most : Nat}
/-- Both trays stay when the bytes of another block turn. -/
theorem Dk.fxO (h : Dk w0 W p r E c q v L most) {b kO : Nat} {ow : Value} {bs : List UInt8} (ho : Ob W b ow bs) (hk : ow.ownBlock = some kO) (hT : TrB E kO) (hR : RtB L kO) (hlo : w0.heap.size ≤ kO) (hf : Fx (fun k => k = kO) W W') : Dk w0 W' p r E c q v L most := by
  have hz := h.z3
  refine ⟨h.tr.fx hf (fun e => ho.neB h.tr.bl (by decide) (by have e' : p = kO := e; rw [e']; exact hk)) (fun e => ho.neM h.tr.mp.hp (by have e' : r = kO := e; rw [e']; exact hk)) (fun k e => by have e' : k = kO := e; rw [e']; exact hT), ⟨h.rt.bl.fx hf (fun e => ho.neB h.rt.bl (by decide) (by have e' : q = kO := e; rw [e']; exact hk)), h.rt.ow.fx hf (fun b' hb e => by have e' : b' = kO := e; rw [e'] at hb; exact ho.neL h.rt.ow (by decide) hb hk), fun x hx => (h.rt.hs x hx).fx hf (fun b' hb e => by have e' : b' = kO := e; rw [e'] at hb; exact ho.neL (h.rt.hs x hx).bi (by decide) hb hk) (fun b' hb e => by have e' : b' = kO := e; rw [e'] at hb; exact ho.neL (h.rt.hs x hx).pt (by decide) hb hk) (fun i u t hu ht k e => by have e' : k = kO := e; rw [e']; exact hR x hx i u t hu ht)⟩, h.rel, h.le, h.m64, h.ks.fx hf (fun e => by have e' : (0 : Nat) = kO := e; omega), fun t ht => hf.cell (h.rs t ht) (fun e => by have e' : (2 : Nat) = kO := e; omega), fun t ht => hf.cell (h.bs t ht) (fun e => by have e' : (1 : Nat) = kO := e; omega), h.be.trans (hf.below (fun k hk' e => by have e' : k = kO := e; omega) h.be.size), h.hr, h.hq, h.hv, h.tq, h.tv, h.z3⟩
theorem ad_len (h : E.length ≤ most) (a cb : List UInt8) (u : Value) (c0 : Nat) : (adL E most a cb u c0).length ≤ most := by
  unfold adL
  split
  · rename_i h0
    rw [up_len]
    split
    · exact h
    · rename_i hk
      have hk' : lkE E a (pI cb) = none := by cases hq : lkE E a (pI cb) with | none => rfl | some x => rw [hq] at hk; exact absurd rfl hk
      have hH : adH E most a cb = 0 := by
        refine Classical.byContradiction fun hn => ?_
        unfold adE at h0
        split at h0
        · cases h0
        · split at h0
          · cases h0
          · exact hn h0
      unfold adH at hH
      rw [ah_none (x := adX cb u0) hk'] at hH
      split at hH
      · cases hH
      · omega
  · exact h
theorem TrB.sub {E' : List Me} {k : Nat} (h : TrB E k) (hs : ∀ m ∈ E', m ∈ E) : TrB E' k := fun m hm => h m (hs m hm)
end
/-- One step's operation. -/
structure Ox where
  k : Int
  a : List UInt8
  id : Nat
  bv : Value
def Ox.cs (o : Ox) : List Value := [.int .i64 o.k, sv o.a, u32v o.id, o.bv]
def Ox.v (o : Ox) : Value := .agg o.cs.toArray
theorem g51_0 (q : Nat) (W : World) : (Instr.fieldAt 51 (.pointer (some ⟨q, 0, none⟩)) 0).run Tryd.prog W = .ok (.pointer (some ⟨q, 0, none⟩)) W := by go_simp
theorem g51_1 (q : Nat) (W : World) : (Instr.fieldAt 51 (.pointer (some ⟨q, 0, none⟩)) 1).run Tryd.prog W = .ok (.pointer (some ⟨q, 1, none⟩)) W := by go_simp
theorem g51_2 (q : Nat) (W : World) : (Instr.fieldAt 51 (.pointer (some ⟨q, 0, none⟩)) 2).run Tryd.prog W = .ok (.pointer (some ⟨q, 2, none⟩)) W := by go_simp
theorem g51_3 (q : Nat) (W : World) : (Instr.fieldAt 51 (.pointer (some ⟨q, 0, none⟩)) 3).run Tryd.prog W = .ok (.pointer (some ⟨q, 3, none⟩)) W := by go_simp
end Go.Proofs.YtiefgmgjlhjjhaaDoor
