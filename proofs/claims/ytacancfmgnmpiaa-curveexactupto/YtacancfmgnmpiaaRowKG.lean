import Derived.Test.YtacancfmgnmpiaaXv
import Derived.Test.YtacancfmgnmpiaaFix
import Derived.Test.YtacancfmgnmpiaaNum3G
import Derived.WalkKit
import Derived.ProofKit
import Derived.OpenShut
import Derived.ChangeOld
import Derived.Below
import Derived.SizedLaws
import Derived.Deep.Slices
set_option linter.unusedVariables false
set_option linter.unusedSimpArgs false
namespace Go.Proofs.Ytacancfmgnmpiaa
open Go.RowKit

/-- One call of a script. -/
structure Stp where
  kind : Int
  k : List UInt8
  u : List UInt8
  v : Value
  bs : List UInt8
structure Stp.ok (w : World) (o : Stp) : Prop where
  lk : o.k.length = 32
  lu : o.u.length = 32
  hv : Has w o.v o.bs
  hb : o.bs.length ≤ 1048576
def Stp.cells (o : Stp) : List Value := stC o.kind o.k o.u o.v
/-- Cells lie from an address on. -/
def At (w : World) (ad : Addr) (cs : List Value) : Prop := ∀ j v, cs[j]? = some v → w.cell? (ad.add j) = some v
theorem At.below {w w' : World} {ad : Addr} {cs : List Value} (h : At w ad cs) (hb : Below w.heap.size w w') : At w' ad cs := fun j v hj => (hb.cell (cell_lt (h j v hj))).trans (h j v hj)
/-- The slice value sv holds the script. -/
structure Script (w : World) (sv : Value) (os : List Stp) : Prop where
  len : ∀ W ty, (Builtin.len_ #[44] ty #[sv]).run Try.prog W = .ok (.int .i64 os.length) W
  item : ∀ (i : Nat) (o : Stp), os[i]? = some o → ∃ ad, (∀ W, (Instr.indexAt 44 sv (.int .i64 (i : Int))).run Try.prog W = .ok (.pointer (some ad)) W) ∧ At w ad o.cells ∧ o.ok w

section
variable {P : Program}
theorem run_loadVar_at (w : World) (ad : Addr) (ty : TypeId) (cs : List Value) (d : TypeDesc) (hc : At w ad cs)
    (hu : P.underlying ty = some d) (hd : d.isRow = true) (hi : (P.info? ty).map (·.size) = some cs.length) :
    (loadVar ty ad).run P w = .ok (.agg cs.toArray) w := by
  have hl : (loadCells ad cs.length).run P w = .ok cs.toArray w :=
    run_loadCells_list (P := P) w ad cs (fun j v hv => hc j v hv)
  cases hq : P.info? ty with
  | none => simp [hq] at hi
  | some i =>
    have hs : i.size = cs.length := by simpa [hq] using hi
    have hagg : (isAgg ty).run P w = .ok true w := by
      unfold isAgg
      rw [Sem.run_bind, run_underlying hu w]
      cases d <;> simp_all
    simp [loadVar, Sem.run_bind, hagg, sizeOf, typeInfo, hq, hs, hl]
theorem wpList_load_at {ops : Array Oper} {rest : List Oper} {op : Oper} {a : Act} {w : World} {Q : Exit → Act → World → Prop} (hgd : op.guard = none) (ty : TypeId) (x : Operand) (ho : op.op = .load ty x)
    (ad : Addr) (hx : a.eval x = .pointer (some ad)) (cs : List Value) (d : TypeDesc) (hc : At w ad cs)
    (hu : P.underlying ty = some d) (hd : d.isRow = true) (hi : (P.info? ty).map (·.size) = some cs.length)
    (h : wpList P ops Q rest (a.put op.dst (.agg cs.toArray)) w) : wpList P ops Q (op :: rest) a w :=
  wpList_plain hgd fun K hK => by
    unfold Oper.wp execOp
    simp only [ho, hx, Instr.loadAt, Instr.sureAddr, Sem.run_bind, Sem.run_pure, Result.andThen_ok, run_loadVar_at w ad ty cs d hc hu hd hi]
    exact hK _ _ h
end
theorem info47 {cs : List Value} (h : cs.length = 66) : (Try.prog.info? 47).map (·.size) = some cs.length := by rw [h]; kernel_rfl

set_option maxHeartbeats 1000000 in
set_option maxRecDepth 100000 in
theorem exact_any (sv : Value) (os : List Stp) (w : World) (hsc : Script w sv os) :
    Calls Try.prog 8 #[sv] w fun e w' => e = .returned (.bool true) ∧ Below w.heap.size w w' := by
  have HSC := hide hsc
  have PL : Hid (∀ (o : Stp) (y : World), o.ok y → Calls Try.prog 17 #[.agg o.cells.toArray] y fun e z => e = .returned (.bool true) ∧ Below y.heap.size y z) := hide (fun o y h => plays_any o.kind o.k o.u o.bs o.v h.lk h.lu (by have := h.hb; omega) y h.hv)
  have HF := hide fixed_any
  clear hsc
  have hlen := HSC.out.len
  obtain ⟨nO, hnO⟩ : ∃ n, os.length = n := ⟨_, rfl⟩
  rw [hnO] at hlen
  have HNO := hide hnO
  clear hnO
  go_enter Try.func8, Try.ntmps8
  go_wp2_with (first
    | (go_at_call 9; refine (HF.out _).mono ?_; rintro e w1 ⟨rfl, hp⟩; have B1 := hide hp; clear hp)
    | fail)
  go_loopw [3, 4] (fun ok i wx => ∃ k : Nat, k ≤ nO ∧ k ≤ 6 ∧ ok = .bool true ∧ i = .int .i64 (k : Int) ∧ Hid (Below w.heap.size w wx)) (fun _ i _ => 6 - (intOf i).toNat)
  case atStart => exact ⟨0, by omega, by omega, rfl, rfl, B1⟩
  case round =>
    obtain ⟨k, hk, hk6, rfl, rfl, hy⟩ := hrel
    by_cases hin : k < nO
    · by_cases h6 : k < 6
      · have hkz : (k : Int) < nO := by omega
        have hk3 : (k : Int) < 6 := by omega
        obtain ⟨o, ho⟩ : ∃ o, os[k]? = some o := ⟨os[k]'(by rw [HNO.out]; exact hin), List.getElem?_eq_getElem _⟩
        obtain ⟨ad, hix, hrg, hok⟩ := HSC.out.item k o ho
        have RG := hide (hrg.below hy.out)
        have hok' : o.ok wr := ⟨hok.lk, hok.lu, hok.hv.below hy.out, hok.hb⟩
        have hcall := hide (PL.out o wr hok')
        have h47 : (Try.prog.info? 47).map (·.size) = some o.cells.length := info47 (stC_len hok.lk hok.lu)
        obtain ⟨oc, hoc⟩ : ∃ oc, o.cells = oc := ⟨_, rfl⟩
        rw [hoc] at RG hcall h47
        clear hoc hok hok' hrg ho PL
        go_wp2_with (first
          | (refine wpList_load_at rfl 47 (.tmp 21) rfl ad rfl oc _ RG.out Try.underlying47 rfl h47 ?_)
          | (go_at_call 17; refine hcall.out.mono ?_; rintro e y1 ⟨rfl, hp⟩; have O1 := hide (hy.out.trans (hp.mono hy.out.size)); clear hp)
          | fail)
        go_roundw
        case rel => exact ⟨k + 1, by omega, by omega, rfl, by go_num, O1⟩
        case measure => simp [intOf]; omega
      · have hkz : (k : Int) < nO := by omega
        have hk3 : ¬ (k : Int) < 6 := by omega
        go_wp2
        go_ret
        exact ⟨rfl, hy.out⟩
    · have hkz : ¬ (k : Int) < nO := by omega
      go_wp2
      go_ret
      exact ⟨rfl, hy.out⟩
end Go.Proofs.Ytacancfmgnmpiaa

set_option linter.unusedVariables false
set_option linter.unusedSimpArgs false
namespace Go.Proofs.Ytacancfmgnmpiaa
open Go.ChangeShapes Go.WideShapes Go.ChangeAt Go.RowKit
namespace Row

theorem own : ownKnob Try.prog.godebug = none := by kernel_rfl
theorem laidOut : laidOutB Try.prog = true := by kernel_rfl
theorem cells5 : Try.prog.cellsOf 5 = 1 := by kernel_rfl
theorem cells24 : Try.prog.cellsOf 24 = 32 := by kernel_rfl
theorem wf_byte {n : Int} (h : (Lit.int .u8 n).wf = true) : 0 ≤ n ∧ n < 256 := by
  have := (bounds_u8 h); omega

/-- An array of numbers that came in. -/
theorem row_of_trod {H : Type} {enc : TypeId × Value → H} {P : Program} {W : World} {base : Nat} {spare : Nat → Bool} {held : Bool} {fuel : Nat} {t e : TypeId} {n : Nat} {k : IntKind} {cs : List Value} {x : DataW H × List MemPlace} (ht : P.underlying t = some (.array n e)) (he : P.underlying e = some (.int k)) (hce : P.cellsOf e = 1) (hct : P.cellsOf t = n)
    (h : DataW.trod enc P W base spare held fuel t cs = some x) : ∃ zs : List Int, zs.length = n ∧ cs = zs.map (Value.int k) ∧ ∀ z ∈ zs, (Lit.int k z).wf = true := by
  obtain ⟨xs, m, _, _, hl, hlen, hf⟩ := DataW.trod_array ht h
  rw [hct] at hl
  obtain ⟨F, hF⟩ := Deep.choose_lt (α := Int) (n := n) (p := fun i z => cs[i]? = some (.int k z) ∧ (Lit.int k z).wf = true) (fun i hi => by
    have h1 := hf i hi
    rw [hce, List.getElem?_eq_getElem (by omega)] at h1
    obtain ⟨z, e0, _, wf⟩ := DataW.trod_int he h1
    refine ⟨z, ?_, wf⟩
    have h2 : ((cs.drop (i * 1)).take 1)[0]? = some (.int k z) := by rw [e0]; rfl
    simpa using h2)
  refine ⟨(List.range n).map F, by simp, List.ext_getElem? fun i => ?_, fun z hz => ?_⟩
  · rcases Nat.lt_or_ge i n with hi | hi
    · rw [(hF i hi).1]; simp [hi]
    · rw [List.getElem?_eq_none (by omega), List.getElem?_eq_none (by simp; omega)]
  · obtain ⟨i, hi, rfl⟩ := List.mem_map.1 hz
    exact (hF i (List.mem_range.1 hi)).2
theorem bytes_row (zs : List Int) (h : ∀ z ∈ zs, (Lit.int .u8 z).wf = true) : zs.map (Value.int .u8) = (zs.map fun z => UInt8.ofNat z.toNat).map byt := by
  rw [List.map_map]
  refine List.map_congr_left fun z hz => ?_
  have hb := wf_byte (h z hz)
  simp only [Function.comp, byt]
  rw [UInt8.toNat_ofNat', Nat.mod_eq_of_lt (by omega)]
  congr 1
  omega

/-- A key that came in. -/
theorem key_of {H : Type} {enc : TypeId × Value → H} {W : World} {base : Nat} {v : Value} {d : DataW H} {p : List MemPlace} (hv : Value.okWide Try.prog W .any base 24 v) (h : ∃ m, DataW.trod enc Try.prog W 0 (fun _ => true) true m 24 v.cells.toList = some (d, p)) :
    ∃ k : List UInt8, k.length = 32 ∧ v = .agg (k.map byt).toArray := by
  simp only [Value.okWide, Try.underlying24] at hv
  obtain ⟨cs, rfl, _, _⟩ := hv
  obtain ⟨fuel, hf⟩ := h
  obtain ⟨zs, hl, hc, hw⟩ := row_of_trod Try.underlying24 Try.underlying5 cells5 cells24 hf
  refine ⟨zs.map fun z => UInt8.ofNat z.toNat, by simp [hl], ?_⟩
  rw [← bytes_row zs hw, ← hc]
  simp [Value.cells]
theorem byte_of {H : Type} {enc : TypeId × Value → H} {W : World} {base : Nat} {v : Value} {d : DataW H} {p : List MemPlace} (hv : Value.okWide Try.prog W .any base 5 v) (h : ∃ m, DataW.trod enc Try.prog W 0 (fun _ => true) true m 5 v.cells.toList = some (d, p)) :
    ∃ u : UInt8, v = .int .u8 (u.toNat : Int) := by
  obtain ⟨n, rfl, _, _, wf⟩ := open_int Try.underlying5 hv h
  have hb := wf_byte wf
  refine ⟨UInt8.ofNat n.toNat, ?_⟩
  rw [UInt8.toNat_ofNat', Nat.mod_eq_of_lt (by omega)]
  congr 1
  omega
end Row
end Go.Proofs.Ytacancfmgnmpiaa
