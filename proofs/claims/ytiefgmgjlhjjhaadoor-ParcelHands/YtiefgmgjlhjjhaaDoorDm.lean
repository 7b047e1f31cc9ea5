import Derived.Test.YtiefgmgjlhjjhaaDoorDlG
set_option linter.unusedVariables false
set_option linter.unusedSimpArgs false
namespace Go.Proofs.YtiefgmgjlhjjhaaDoor
open Go.RowKit

attribute [local irreducible] sm sumOf cnt chk partB ptB lgL pM pI pN pA pS pC
theorem Ob.setAtF {w : World} {b : Nat} {v : Value} {bs : List UInt8} (h : Ob w b v bs) (i : Nat) (hi : i < bs.length) (u : UInt8) : ∃ ad w', (∀ W, (Instr.indexAt 24 v (.int .i64 (i : Int))).run Tryd.prog W = .ok (.pointer (some ad)) W) ∧ (Instr.storeAt 5 (.pointer (some ad)) (byt u)).run Tryd.prog w = .ok () w' ∧ Ob w' b v (bs.set i u) ∧ Fx (fun k => v.ownBlock = some k) w w' := by
  obtain ⟨hx, ⟨rfl, h0⟩ | ⟨g, cp, cur, rfl, hg, hh2, hnc, hc, hs, htk⟩⟩ := h.row
  · simp only [h0] at hi; omega
  · have hcur : i < cur.size := by simp at hs; omega
    have hcell : w.cell? ⟨g, i, none⟩ = some cur[i] := by
      have := (show Blk w g cur.toList 5 from by unfold Blk; simpa using hh2).cell i
      rw [this, Array.getElem?_toList, Array.getElem?_eq_getElem hcur]
    have hbl : Blk w g cur.toList 5 := by unfold Blk; simpa using hh2
    refine ⟨⟨g, i, none⟩, w.setCell ⟨g, i, none⟩ (byt u), fun W => ?_, st5 u hcell (hbl.frozen i), ?_, (Fx.setCell (S := fun k => k = g) _ _ _ _ rfl).mono (fun k _ e => by rw [show k = g from e]; rfl)⟩
    · have := idx24 ⟨g, 0, none⟩ bs.length cp i hi W
      rwa [add_plain] at this
    · refine ⟨⟨by simp, .inr ⟨g, cp, (cur.toList.set i (byt u)).toArray, by simp, hg, ?_, by simpa using hnc, hc, by simpa using hs, ?_⟩⟩, fun k hk => h.base k (by simpa [Value.ownBlock] using hk)⟩
      · have := hbl.set i (byt u)
        exact this
      · have e1 : (bs.set i u).map byt = (bs.map byt).set i (byt u) := by rw [List.map_set]
        rw [e1, List.length_set, ← htk]
        simp [List.take_set]

def spE (va vb : Value) (i : Nat) : List (Nat × Value) := [(0, va), (1, vb), (5, .int .i64 (i : Int))]
structure SmR (w : World) (n i : Nat) (W : World) : Prop where
  le : i ≤ n
  be : Below w.heap.size w W
set_option maxRecDepth 100000 in
set_option maxHeartbeats 4000000 in
theorem same_any (va vb : Value) (pa pb : List (Value × List UInt8)) (w : World) (ha : Parts w va pa) (hb : Parts w vb pb) (he : pa.map (·.2) = pb.map (·.2)) (hl : pa.length ≤ 1000) : Calls Tryd.prog 15 #[va, vb] w fun e w' => e = .returned (.bool true) ∧ Below w.heap.size w w' := by
  obtain ⟨aoa, cpa, hva⟩ := ha.slice
  obtain ⟨aob, cpb, hvb⟩ := hb.slice
  have hln : pa.length = pb.length := by have := congrArg List.length he; simpa using this
  refine calls_of_args [va, vb] Tryd.func15 rfl 28 Tryd.ntmps15 (by show 2 ≤ 28; decide) ?_
  refine EW.seq ?_
  refine EW.region ?_
  first | refine WL.assign rfl rfl rfl ?_
  refine WL.done ?_
  refine EW.on ?_
  refine EW.seq ?_
  refine EW.seq ?_
  refine EW.region ?_
  first | refine WL.move rfl rfl rfl ?_
  rw [hva]
  refine WL.len rfl rfl rfl (len26 _ _ _ _ _) ?_
  rw [← hva]
  first | refine WL.move rfl rfl rfl ?_
  rw [hvb]
  refine WL.len rfl rfl rfl (len26 _ _ _ _ _) ?_
  rw [← hvb]
  refine WL.bin rfl rfl rfl rfl (int_ne_f (by rw [hln]) _ _ _) ?_
  refine WL.done ?_
  refine EW.on ?_
  refine EW.cond_f rfl ?_
  refine EW.skip ?_
  refine EW.on ?_
  refine EW.seq ?_
  refine EW.seq ?_
  refine EW.region ?_
  first | refine WL.assign rfl rfl rfl ?_
  refine WL.done ?_
  refine EW.on ?_
  refine EW.block ?_
  refine EW.loop (spE va vb) (SmR w pa.length) (fun i => pa.length - i) 0 [0, 1, 5] rfl ⟨Nat.zero_le _, Below.refl _ _⟩ ?_
  rintro i W hR
  show EW _ _ _ _ [(0, va), (1, vb), (5, .int .i64 (i : Int))] _
  have hle := hR.le
  have s1 : IntKind.i64.wrap ((i : Int) + 1) = ((i + 1 : Nat) : Int) := by rw [IntKind.wrap_i64]; omega
  refine EW.seq ?_
  refine EW.seq ?_
  refine EW.region ?_
  first | refine WL.move rfl rfl rfl ?_
  first | refine WL.move rfl rfl rfl ?_
  rw [hva]
  refine WL.len rfl rfl rfl (len26 _ _ _ _ _) ?_
  rw [← hva]
  refine WL.bin rfl rfl rfl rfl (int_lt_d _ _ _ _ _) ?_
  refine WL.done ?_
  refine EW.on ?_
  refine EW.cond_d rfl (fun h14 => ?_) (fun h14 => ?_)
  · have ht : i < pa.length := by omega
    have htb : i < pb.length := by omega
    obtain ⟨xa, hxa⟩ : ∃ xa, pa[i]? = some xa := ⟨_, List.getElem?_eq_getElem ht⟩
    obtain ⟨xb, hxb⟩ : ∃ xb, pb[i]? = some xb := ⟨_, List.getElem?_eq_getElem htb⟩
    have hab : xa.2 = xb.2 := by
      have h1 : (pa.map (·.2))[i]? = some xa.2 := by rw [List.getElem?_map, hxa]; rfl
      have h2 : (pb.map (·.2))[i]? = some xb.2 := by rw [List.getElem?_map, hxb]; rfl
      rw [he, h2] at h1
      exact (Option.some.inj h1).symm
    rcases (ha.on hR.be) with ⟨_, e0⟩ | ⟨ada, capa, ea, _, hca⟩
    · rw [e0] at ht; cases ht
    rcases (hb.on hR.be) with ⟨_, e0⟩ | ⟨adb, capb, eb, _, hcb⟩
    · rw [e0] at htb; cases htb
    have ca := hca i xa hxa
    have cb := hcb i xb hxb
    refine EW.skip ?_
    refine EW.on ?_
    refine EW.seq ?_
    refine EW.block ?_
    refine EW.seq ?_
    refine EW.ordB [(0, 0, 0), (1, 0, 0), (2, 0, 0), (3, 0, 1), (4, 0, 1), (5, 0, 0), (6, 0, 0), (7, 0, 0), (8, 0, 1), (9, 0, 1), (10, 0, 0)] (by kernel_rfl) rfl (by kernel_rfl) ?_
    simp only [opsZ, List.getD_cons_zero, List.getD_cons_succ]
    first | refine ZE.move rfl rfl rfl rfl sz0 ?_
    first | refine ZE.move rfl rfl rfl rfl sz0 ?_
    rw [ea]
    refine ZE.index rfl rfl rfl rfl rfl sz0 (fun W => x26 _ _ _ _ ht W) ?_
    rw [← ea]
    refine ZE.load rfl rfl rfl rfl sz1 (fun W hW => ldC (((hW.resolve_left (by decide)).cell (cell_lt ca.1)).trans ca.1)) ?_
    refine ZE.conv rfl rfl rfl rfl sz1 (fun W hW => (ca.2.below (hW.resolve_left (by decide))).convert) ?_
    first | refine ZE.move rfl rfl rfl rfl sz0 ?_
    first | refine ZE.move rfl rfl rfl rfl sz0 ?_
    rw [eb]
    refine ZE.index rfl rfl rfl rfl rfl sz0 (fun W => x26 _ _ _ _ htb W) ?_
    rw [← eb]
    refine ZE.load rfl rfl rfl rfl sz1 (fun W hW => ldC (((hW.resolve_left (by decide)).cell (cell_lt cb.1)).trans cb.1)) ?_
    refine ZE.conv rfl rfl rfl rfl sz1 (fun W hW => (cb.2.below (hW.resolve_left (by decide))).convert) ?_
    refine ZE.bin rfl rfl rfl rfl rfl sz0 (fun W => str_ne_d _ _ W _ _) ?_
    rw [show decide (¬ xa.2 = xb.2) = false by rw [decide_eq_false]; exact fun h => h hab]
    rintro W6 l6
    refine EW.on ?_
    refine EW.cond_f rfl ?_
    refine EW.skip ?_
    refine pn_block ?_
    refine EW.on ?_
    refine EW.region ?_
    first | refine WL.move rfl rfl rfl ?_
    first | refine WL.bin rfl rfl rfl rfl (int_add ‹_› _ _ _) ?_
    first | refine WL.assign rfl rfl rfl ?_
    refine WL.done ?_
    exact EW.again (i + 1) [0, 1, 5] rfl ⟨by omega, bt hR.be l6⟩ (by omega)
  · skip
    refine EW.exit ?_
    refine px_then ?_
    refine px_then ?_
    refine px_block ?_
    refine EW.on ?_
    refine EW.seq ?_
    refine EW.region ?_
    first | refine WL.assign rfl rfl rfl ?_
    refine WL.done ?_
    refine EW.on ?_
    refine EW.ret ?_
    exact EW.returns Tryd.results15 rfl ⟨rfl, hR.be⟩
section
variable {w0 W W' : World} {p r : Nat} {E : List Me} {c : Nat} {q : Nat} {v : Value} {L : List Rp} {most : Nat}
end
/-- One step's operation. -/
structure Ox where
  k : Int
  a : List UInt8
  id : Nat
  bv : Value
end Go.Proofs.YtiefgmgjlhjjhaaDoor
