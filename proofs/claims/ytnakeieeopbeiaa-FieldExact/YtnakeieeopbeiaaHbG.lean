import Derived.Test.YtnakeieeopbeiaaByt
import Derived.WalkKit
import Derived.ProofKit
import Derived.OpenShut
import Derived.ChangeOld
import Derived.Below
import Derived.SizedLaws
import Derived.Deep.Slices
import Derived.Test.YtnakeieeopbeiaaHa
import Derived.Deep.Strs
import Derived.ShutString
import Derived.JoinedCond
set_option linter.unusedVariables false
set_option linter.unusedSimpArgs false
namespace Go.Proofs.Ytnakeieeopbeiaa
open Go.ChangeShapes Go.WideShapes Go.ChangeAt Go.RowKit
namespace Row

theorem own : ownKnob Try.prog.godebug = none := by kernel_rfl
theorem laidOut : laidOutB Try.prog = true := by kernel_rfl
theorem cells5 : Try.prog.cellsOf 5 = 1 := by kernel_rfl
theorem cells23 : Try.prog.cellsOf 23 = 32 := by kernel_rfl
theorem wf_byte {n : Int} (h : (Lit.int .u8 n).wf = true) : 0 ≤ n ∧ n < 256 := by
  have := (bounds_u8 h); omega

/-- An array of numbers that came in. -/
theorem row_of_trod {H : Type} {enc : TypeId × Value → H} {P : Program} {W : World} {base : Nat} {spare : Nat → Bool} {held : Bool} {fuel : Nat} {t e : TypeId} {n : Nat} {k : IntKind} {cs : List Value} {x : DataW H × List MemPlace} (ht : P.underlying t = some (.array n e)) (he : P.underlying e = some (.int k)) (hce : P.cellsOf e = 1) (hct : P.cellsOf t = n)
    (h : DataW.trod enc P W base spare held fuel t cs = some x) : ∃ zs : List Int, zs.length = n ∧ cs = zs.map (Value.int k) ∧ ∀ z ∈ zs, (Lit.int k z).wf = true := by
  obtain ⟨xs, m, _, _, hl, hlen, hf⟩ := DataW.trod_array ht h
  rw [hct] at hl
  obtain ⟨F, hF⟩ := Deep.choose_lt (α := Int) (n := n) (p := fun i z => cs[i]? = some (.int k z) ∧ (Lit.int k z).wf = true) (fun i hi => by
    have h1 := hf i hi
    rw [hce, List.getElem?_eq_getElem (by omega)] at h1
    obtain ⟨z, e0, _, wf⟩ := DataW.trod_int he h1
    refine ⟨z, ?_, wf⟩
    have h2 : ((cs.drop (i * 1)).take 1)[0]? = some (.int k z) := by rw [e0]; rfl
    simpa using h2)
  refine ⟨(List.range n).map F, by simp, List.ext_getElem? fun i => ?_, fun z hz => ?_⟩
  · rcases Nat.lt_or_ge i n with hi | hi
    · rw [(hF i hi).1]; simp [hi]
    · rw [List.getElem?_eq_none (by omega), List.getElem?_eq_none (by simp; omega)]
  · obtain ⟨i, hi, rfl⟩ := List.mem_map.1 hz
    exact (hF i (List.mem_range.1 hi)).2
theorem bytes_row (zs : List Int) (h : ∀ z ∈ zs, (Lit.int .u8 z).wf = true) : zs.map (Value.int .u8) = (zs.map fun z => UInt8.ofNat z.toNat).map byt := by
  rw [List.map_map]
  refine List.map_congr_left fun z hz => ?_
  have hb := wf_byte (h z hz)
  simp only [Function.comp, byt]
  rw [UInt8.toNat_ofNat', Nat.mod_eq_of_lt (by omega)]
  congr 1
  omega

/-- A key that came in. -/
theorem key_of {H : Type} {enc : TypeId × Value → H} {W : World} {base : Nat} {v : Value} {d : DataW H} {p : List MemPlace} (hv : Value.okWide Try.prog W .any base 23 v) (h : ∃ m, DataW.trod enc Try.prog W 0 (fun _ => true) true m 23 v.cells.toList = some (d, p)) :
    ∃ k : List UInt8, k.length = 32 ∧ v = .agg (k.map byt).toArray := by
  simp only [Value.okWide, Try.underlying23] at hv
  obtain ⟨cs, rfl, _, _⟩ := hv
  obtain ⟨fuel, hf⟩ := h
  obtain ⟨zs, hl, hc, hw⟩ := row_of_trod Try.underlying23 Try.underlying5 cells5 cells23 hf
  refine ⟨zs.map fun z => UInt8.ofNat z.toNat, by simp [hl], ?_⟩
  rw [← bytes_row zs hw, ← hc]
  simp [Value.cells]
theorem byte_of {H : Type} {enc : TypeId × Value → H} {W : World} {base : Nat} {v : Value} {d : DataW H} {p : List MemPlace} (hv : Value.okWide Try.prog W .any base 5 v) (h : ∃ m, DataW.trod enc Try.prog W 0 (fun _ => true) true m 5 v.cells.toList = some (d, p)) :
    ∃ u : UInt8, v = .int .u8 (u.toNat : Int) := by
  obtain ⟨n, rfl, _, _, wf⟩ := open_int Try.underlying5 hv h
  have hb := wf_byte wf
  refine ⟨UInt8.ofNat n.toNat, ?_⟩
  rw [UInt8.toNat_ofNat', Nat.mod_eq_of_lt (by omega)]
  congr 1
  omega
end Row
end Go.Proofs.Ytnakeieeopbeiaa

set_option linter.unusedVariables false
set_option linter.unusedSimpArgs false
namespace Go.Proofs.Ytnakeieeopbeiaa
open Go.ChangeShapes Go.WideShapes Go.ChangeAt Go.RowKit

theorem cells55 : Try.prog.cellsOf 55 = 38 := by kernel_rfl
theorem cells3x : Try.prog.cellsOf 3 = 1 := by kernel_rfl
theorem cells34x : Try.prog.cellsOf 34 = 1 := by kernel_rfl
theorem idx45 (ad : Addr) (n cap m : Nat) (h : m < n) (W : World) : (Instr.indexAt 45 (.slice (some ad) n cap) (.int .i64 (m : Int))).run Try.prog W = .ok (.pointer (some (ad.add (m * 38)))) W := by
  have hm : (m : Int) < (n : Int) := by omega
  go_simp
theorem trod_struct7 {H : Type} {enc : TypeId × Value → H} {P : Program} {w : World} {base : Nat} {spare : Nat → Bool} {held : Bool} {t : TypeId} {f0 f1 f2 f3 f4 f5 f6 : Field} {fuel : Nat} {cs : List Value} {x : DataW H × List MemPlace} (ht : P.underlying t = some (.struct #[f0, f1, f2, f3, f4, f5, f6])) (h : DataW.trod enc P w base spare held fuel t cs = some x) :
    ∃ y0 y1 y2 y3 y4 y5 y6 n, DataW.trod enc P w base spare held n f0.type ((cs.drop f0.offset).take (P.cellsOf f0.type)) = some y0 ∧
      DataW.trod enc P w base spare held n f1.type ((cs.drop f1.offset).take (P.cellsOf f1.type)) = some y1 ∧ DataW.trod enc P w base spare held n f2.type ((cs.drop f2.offset).take (P.cellsOf f2.type)) = some y2 ∧
      DataW.trod enc P w base spare held n f3.type ((cs.drop f3.offset).take (P.cellsOf f3.type)) = some y3 ∧ DataW.trod enc P w base spare held n f4.type ((cs.drop f4.offset).take (P.cellsOf f4.type)) = some y4 ∧
      DataW.trod enc P w base spare held n f5.type ((cs.drop f5.offset).take (P.cellsOf f5.type)) = some y5 ∧ DataW.trod enc P w base spare held n f6.type ((cs.drop f6.offset).take (P.cellsOf f6.type)) = some y6 := by
  obtain ⟨xs, n, _, rfl, hl, hlen, hf⟩ := DataW.trod_struct ht h
  match xs, hlen with
  | [y0, y1, y2, y3, y4, y5, y6], _ => exact ⟨y0, y1, y2, y3, y4, y5, y6, n, by simpa using hf 0 f0 rfl, by simpa using hf 1 f1 rfl, by simpa using hf 2 f2 rfl, by simpa using hf 3 f3 rfl, by simpa using hf 4 f4 rfl, by simpa using hf 5 f5 rfl, by simpa using hf 6 f6 rfl⟩
theorem four_of (cs : List Value) (h : cs.length = 38) : ∃ c0 c1 c2 c3 r, cs = c0 :: c1 :: c2 :: c3 :: r ∧ r.length = 34 := by
  match cs, h with
  | c0 :: c1 :: c2 :: c3 :: r, h => exact ⟨c0, c1, c2, c3, r, rfl, by simpa using h⟩
instance : Inhabited Opf := ⟨⟨0, 0, 0, 0, [], 0, 0⟩⟩
set_option maxRecDepth 100000 in
theorem script_of_trod {H : Type} {enc : TypeId × Value → H} {W : World} {base : Nat} {spare : Nat → Bool} {held : Bool} {fuel : Nat} {cs : List Value} {x : DataW H × List MemPlace} (h : DataW.trod enc Try.prog W base spare held fuel 45 cs = some x) :
    ∃ v os, cs = [v] ∧ Script W v os := by
  rcases Deep.open_slice Try.underlying45 h with ⟨rfl, _⟩ | ⟨a, len, cap, m, n, D, Pl, rfl, _, hl, hm, hmm, hxx, hx⟩
  · exact ⟨_, [], rfl, ⟨fun W ty => by go_simp, fun k o hk => by simp at hk⟩⟩
  · have hlm : len ≤ m := by rw [hmm]; split <;> omega
    obtain ⟨F, hF⟩ := Deep.choose_lt (α := Opf) (n := len) (p := fun i o => At W (a.add (i * 38)) (opF o) ∧ o.k.length = 32) (fun i hi => by
      obtain ⟨cs', h1, h2⟩ := hx i (by omega)
      rw [cells55] at h1
      obtain ⟨_, hlen, hc⟩ := World.cells?_some h1
      obtain ⟨y0, y1, y2, y3, y4, y5, y6, k, t0, t1, t2, t3, t4, t5, t6⟩ := trod_struct7 Try.underlying55 h2
      obtain ⟨c0, c1, c2, c3, r, rfl, hr⟩ := four_of cs' hlen
      dsimp only at t0 t1 t2 t3 t4 t5 t6
      rw [cells3x] at t0 t1 t2 t3 t6
      rw [cells34x] at t5
      rw [Row.cells23] at t4
      obtain ⟨k0, e0, _, _⟩ := DataW.trod_int Try.underlying3 t0
      obtain ⟨k1, e1, _, _⟩ := DataW.trod_int Try.underlying3 t1
      obtain ⟨k2, e2, _, _⟩ := DataW.trod_int Try.underlying3 t2
      obtain ⟨k3, e3, _, _⟩ := DataW.trod_int Try.underlying3 t3
      obtain ⟨k5, e5, _, w5⟩ := DataW.trod_int Try.underlying34 t5
      obtain ⟨k6, e6, _, _⟩ := DataW.trod_int Try.underlying3 t6
      obtain ⟨zs, hzl, hzc, hzw⟩ := Row.row_of_trod Try.underlying23 Try.underlying5 Row.cells5 Row.cells23 t4
      rw [Row.bytes_row zs hzw] at hzc
      simp only [List.drop_zero, List.take_succ_cons, List.take_zero, List.drop_succ_cons, List.cons.injEq, and_true] at e0 e1 e2 e3 e5 e6 hzc
      subst e0 e1 e2 e3
      have hb5 := bounds_u32 w5
      refine ⟨⟨k0, k1, k2, k3, zs.map fun z => UInt8.ofNat z.toNat, BitVec.ofNat 32 k5.toNat, k6⟩, fun j v hj => ?_, by simp [hzl]⟩
      have hr2 : r = r.take 32 ++ ((r.drop 32).take 1 ++ (r.drop 33).take 1) := by
        match hd : r.drop 32, (show (r.drop 32).length = 2 by simp [hr]) with
        | [u, v], _ =>
          have h33 : r.drop 33 = [v] := by
            rw [show (33 : Nat) = 32 + 1 from rfl, ← List.drop_drop, hd]; rfl
          rw [h33]
          have := List.take_append_drop 32 r
          rw [hd] at this
          simpa using this.symm
      rw [hzc, e5, e6] at hr2
      have e : (.int .u32 k5 : Value) = .int .u32 (((BitVec.ofNat 32 k5.toNat).toNat : Nat) : Int) := by
        congr 1
        rw [BitVec.toNat_ofNat]
        omega
      have hcs : (.int .i64 k0 :: .int .i64 k1 :: .int .i64 k2 :: .int .i64 k3 :: r : List Value) = opF ⟨k0, k1, k2, k3, zs.map fun z => UInt8.ofNat z.toNat, BitVec.ofNat 32 k5.toNat, k6⟩ := by
        unfold opF
        rw [hr2, e]
        rfl
      have hjl : j < 38 := by
        have := (List.getElem?_eq_some_iff.1 hj).1
        rw [opF_len _ (by simp [hzl])] at this
        exact this
      rw [← hcs] at hj
      exact (hc j hjl).trans hj)
    have hlen : ((List.range len).map F).length = len := by simp
    refine ⟨_, (List.range len).map F, rfl, ⟨fun W ty => ?_, fun i o hi => ?_⟩⟩
    · rw [hlen]; go_simp
    · have hi' : i < len := by
        have := (List.getElem?_eq_some_iff.1 hi).1
        rw [hlen] at this; exact this
      have ho : F i = o := by simpa [hi'] using hi
      subst ho
      exact ⟨a.add (i * 38), fun W => idx45 a len cap i hi' W, (hF i hi').1, (hF i hi').2⟩
end Go.Proofs.Ytnakeieeopbeiaa
