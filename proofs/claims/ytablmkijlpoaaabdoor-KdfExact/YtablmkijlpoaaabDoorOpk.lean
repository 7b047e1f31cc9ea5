import Derived.Test.YtablmkijlpoaaabDoorLl
import Derived.Test.YtablmkijlpoaaabDoorRow
import Derived.Test.YtablmkijlpoaaabDoorRefa
import Derived.Deep.Slices
import Derived.Deep.Strs
import Derived.Stop.LaidErr
namespace Go.Proofs.YtablmkijlpoaaabDoor
open Go.RowKit

/-- One call of a script. -/
structure Opd where
  kind : Int
  vK : Value
  vA : Value
  vB : Value
  n : Int
  bK : List UInt8
  bA : List UInt8
  bB : List UInt8
structure Opd.ok (w : World) (o : Opd) : Prop where
  hK : Has w o.vK o.bK
  hA : Has w o.vA o.bA
  hB : Has w o.vB o.bB
def Opd.cells (o : Opd) : List Value := opK o.kind o.vK o.vA o.vB o.n
/-- Cells lie from an address on. -/
def At (w : World) (ad : Addr) (cs : List Value) : Prop := ∀ j v, cs[j]? = some v → w.cell? (ad.add j) = some v
theorem At.below {w w' : World} {ad : Addr} {cs : List Value} (h : At w ad cs) (hb : Below w.heap.size w w') : At w' ad cs := fun j v hj => (hb.cell (cell_lt (h j v hj))).trans (h j v hj)
/-- The slice value sv holds the script. -/
structure Script (w : World) (sv : Value) (os : List Opd) : Prop where
  len : ∀ W ty, (Builtin.len_ #[22] ty #[sv]).run Tryd.prog W = .ok (.int .i64 os.length) W
  item : ∀ (i : Nat) (o : Opd), os[i]? = some o → ∃ ad, (∀ W, (Instr.indexAt 22 sv (.int .i64 (i : Int))).run Tryd.prog W = .ok (.pointer (some ad)) W) ∧ At w ad o.cells ∧ o.ok w

section
variable {P : Program}
theorem run_loadVar_at (w : World) (ad : Addr) (ty : TypeId) (cs : List Value) (d : TypeDesc) (hc : At w ad cs)
    (hu : P.underlying ty = some d) (hd : d.isRow = true) (hi : (P.info? ty).map (·.size) = some cs.length) :
    (loadVar ty ad).run P w = .ok (.agg cs.toArray) w := by
  have hl : (loadCells ad cs.length).run P w = .ok cs.toArray w :=
    run_loadCells_list (P := P) w ad cs (fun j v hv => hc j v hv)
  cases hq : P.info? ty with
  | none => simp [hq] at hi
  | some i =>
    have hs : i.size = cs.length := by simpa [hq] using hi
    have hagg : (isAgg ty).run P w = .ok true w := by
      unfold isAgg
      rw [Sem.run_bind, run_underlying hu w]
      cases d <;> simp_all
    simp [loadVar, Sem.run_bind, hagg, sizeOf, typeInfo, hq, hs, hl]
theorem wpList_load_at {ops : Array Oper} {rest : List Oper} {op : Oper} {a : Act} {w : World} {Q : Exit → Act → World → Prop} (hgd : op.guard = none) (ty : TypeId) (x : Operand) (ho : op.op = .load ty x)
    (ad : Addr) (hx : a.eval x = .pointer (some ad)) (cs : List Value) (d : TypeDesc) (hc : At w ad cs)
    (hu : P.underlying ty = some d) (hd : d.isRow = true) (hi : (P.info? ty).map (·.size) = some cs.length)
    (h : wpList P ops Q rest (a.put op.dst (.agg cs.toArray)) w) : wpList P ops Q (op :: rest) a w :=
  wpList_plain hgd fun K hK => by
    unfold Oper.wp execOp
    simp only [ho, hx, Instr.loadAt, Instr.sureAddr, Sem.run_bind, Sem.run_pure, Result.andThen_ok, run_loadVar_at w ad ty cs d hc hu hd hi]
    exact hK _ _ h
theorem wpList_bldG {ops : Array Oper} {rest : List Oper} {o : Oper} {a : Act} {w : World} {Q : Exit → Act → World → Prop} (hw : Region.wanted o (yielded ops a.tmps) = true) (t : TypeId) (parts : Array (Nat × Operand)) (ho : o.op = .build t parts)
    (l : List (Nat × Value)) (hl : (parts.map fun (i, x) => (i, a.eval x)).toList = l) (cells : Array Value) (hb : P.built t l = some cells)
    (h : wpList P ops Q rest (a.put o.dst (.agg cells)) w) : wpList P ops Q (o :: rest) a w := by
  subst hl
  refine wpList_step fun K hK => ?_
  rw [if_pos hw]
  refine wp_build t parts ho (by rw [hb]; rfl) ?_
  rw [hb]
  exact hK _ _ h
end
def nilS : Value := .slice none 0 0
theorem built31_1 : Tryd.prog.built 31 [(0, .int .i64 1)] = some (opK 1 nilS nilS nilS 0).toArray := by kernel_rfl
theorem built31_3 : Tryd.prog.built 31 [(0, .int .i64 3), (4, .int .i64 33)] = some (opK 3 nilS nilS nilS 33).toArray := by kernel_rfl
theorem built27 : Tryd.prog.built 27 [] = some [nilS, nilS, nilS, nilS].toArray := by kernel_rfl
end Go.Proofs.YtablmkijlpoaaabDoor
namespace Go.Proofs.YtablmkijlpoaaabDoor
open Go.ChangeShapes Go.WideShapes Go.ChangeAt Go.RowKit

theorem cells31x : Tryd.prog.cellsOf 31 = 5 := by kernel_rfl
theorem cells3x : Tryd.prog.cellsOf 3 = 1 := by kernel_rfl
theorem cells29x : Tryd.prog.cellsOf 29 = 1 := by kernel_rfl
theorem cells5x : Tryd.prog.cellsOf 5 = 1 := by kernel_rfl

theorem bytes_cs {H : Type} {enc : TypeId × Value → H} {W : World} {base : Nat} {spare : Nat → Bool} {held : Bool} {fuel : Nat} {cs : List Value} {x : DataW H × List MemPlace} (h : DataW.trod enc Tryd.prog W base spare held fuel 29 cs = some x) :
    ∃ v bs, cs = [v] ∧ Has W v bs := by
  rcases open_ints Tryd.underlying29 Tryd.underlying5 cells5x h with ⟨rfl, _⟩ | ⟨a, len, cap, zs, rfl, _, hl, hm, hz, hx, hcell, hwz⟩
  · exact ⟨_, [], rfl, Has.nil _⟩
  · have hzl : len ≤ zs.length := by rw [hz]; split <;> omega
    have hlen : ((zs.take len).map fun n => UInt8.ofNat n.toNat).length = len := by simp; omega
    refine ⟨_, (zs.take len).map fun n => UInt8.ofNat n.toNat, rfl, .inr ⟨a, cap, by rw [hlen], by rw [hlen]; exact hl, fun i u hu => ?_⟩⟩
    have hi : i < len := by
      rcases Nat.lt_or_ge i len with h | h
      · exact h
      · rw [List.getElem?_eq_none (by omega)] at hu; cases hu
    rw [List.getElem?_map, List.getElem?_take_of_lt hi, List.getElem?_eq_getElem (by omega)] at hu
    simp only [Option.map_some, Option.some.injEq] at hu
    rw [hcell i (by omega), ← hu]
    have hb := Row.wf_byte (hwz _ (List.getElem_mem (show i < zs.length by omega)))
    simp only [List.getD_eq_getElem?_getD, List.getElem?_eq_getElem (show i < zs.length by omega), Option.getD_some, byt]
    rw [UInt8.toNat_ofNat', Nat.mod_eq_of_lt (by omega)]
    congr 2
    omega

theorem trod_struct5 {H : Type} {enc : TypeId × Value → H} {P : Program} {w : World} {base : Nat} {spare : Nat → Bool} {held : Bool} {t : TypeId} {f0 f1 f2 f3 f4 : Field} {fuel : Nat} {cs : List Value} {x : DataW H × List MemPlace} (ht : P.underlying t = some (.struct #[f0, f1, f2, f3, f4])) (h : DataW.trod enc P w base spare held fuel t cs = some x) :
    ∃ y0 y1 y2 y3 y4 n, DataW.trod enc P w base spare held n f0.type ((cs.drop f0.offset).take (P.cellsOf f0.type)) = some y0 ∧
      DataW.trod enc P w base spare held n f1.type ((cs.drop f1.offset).take (P.cellsOf f1.type)) = some y1 ∧ DataW.trod enc P w base spare held n f2.type ((cs.drop f2.offset).take (P.cellsOf f2.type)) = some y2 ∧
      DataW.trod enc P w base spare held n f3.type ((cs.drop f3.offset).take (P.cellsOf f3.type)) = some y3 ∧ DataW.trod enc P w base spare held n f4.type ((cs.drop f4.offset).take (P.cellsOf f4.type)) = some y4 := by
  obtain ⟨xs, n, _, rfl, hl, hlen, hf⟩ := DataW.trod_struct ht h
  match xs, hlen with
  | [y0, y1, y2, y3, y4], _ => exact ⟨y0, y1, y2, y3, y4, n, by simpa using hf 0 f0 rfl, by simpa using hf 1 f1 rfl, by simpa using hf 2 f2 rfl, by simpa using hf 3 f3 rfl, by simpa using hf 4 f4 rfl⟩

instance : Inhabited Opd := ⟨⟨0, .slice none 0 0, .slice none 0 0, .slice none 0 0, 0, [], [], []⟩⟩

theorem idx22 (ad : Addr) (n cap m : Nat) (h : m < n) (W : World) : (Instr.indexAt 22 (.slice (some ad) n cap) (.int .i64 (m : Int))).run Tryd.prog W = .ok (.pointer (some (ad.add (m * 5)))) W := by
  have hm : (m : Int) < (n : Int) := by omega
  go_simp

theorem five_of (cs : List Value) (h : cs.length = 5) : ∃ c0 c1 c2 c3 c4, cs = [c0, c1, c2, c3, c4] := by
  match cs, h with
  | [c0, c1, c2, c3, c4], _ => exact ⟨c0, c1, c2, c3, c4, rfl⟩

set_option maxRecDepth 100000 in
theorem script_of_trod {H : Type} {enc : TypeId × Value → H} {W : World} {base : Nat} {spare : Nat → Bool} {held : Bool} {fuel : Nat} {cs : List Value} {x : DataW H × List MemPlace} (h : DataW.trod enc Tryd.prog W base spare held fuel 22 cs = some x) :
    ∃ v os, cs = [v] ∧ Script W v os := by
  rcases Deep.open_slice Tryd.underlying22 h with ⟨rfl, _⟩ | ⟨a, len, cap, m, n, D, Pl, rfl, _, hl, hm, hmm, hxx, hx⟩
  · exact ⟨_, [], rfl, ⟨fun W ty => by go_simp, fun k o hk => by simp at hk⟩⟩
  · have hlm : len ≤ m := by rw [hmm]; split <;> omega
    obtain ⟨F, hF⟩ := Deep.choose_lt (α := Opd) (n := len) (p := fun i o => At W (a.add (i * 5)) o.cells ∧ o.ok W) (fun i hi => by
      obtain ⟨cs', h1, h2⟩ := hx i (by omega)
      rw [cells31x] at h1
      obtain ⟨_, hlen, hc⟩ := World.cells?_some h1
      obtain ⟨y0, y1, y2, y3, y4, k, t0, t1, t2, t3, t4⟩ := trod_struct5 Tryd.underlying31 h2
      obtain ⟨c0, c1, c2, c3, c4, rfl⟩ := five_of cs' hlen
      dsimp only at t0 t1 t2 t3 t4
      rw [cells3x] at t0 t4
      rw [cells29x] at t1 t2 t3
      obtain ⟨k0, e0, _, _⟩ := DataW.trod_int Tryd.underlying3 t0
      obtain ⟨k4, e4, _, _⟩ := DataW.trod_int Tryd.underlying3 t4
      obtain ⟨v1, b1, e1, hh1⟩ := bytes_cs t1
      obtain ⟨v2, b2, e2, hh2⟩ := bytes_cs t2
      obtain ⟨v3, b3, e3, hh3⟩ := bytes_cs t3
      simp only [List.drop_zero, List.take_succ_cons, List.take_zero, List.drop_succ_cons, List.cons.injEq, and_true] at e0 e1 e2 e3 e4
      subst e0 e1 e2 e3 e4
      refine ⟨⟨k0, c1, c2, c3, k4, b1, b2, b3⟩, fun j v hj => ?_, hh1, hh2, hh3⟩
      have hjl : j < 5 := by
        have := (List.getElem?_eq_some_iff.1 hj).1
        simpa [Opd.cells, opK] using this
      exact (hc j hjl).trans hj)
    have hlen : ((List.range len).map F).length = len := by simp
    refine ⟨_, (List.range len).map F, rfl, ⟨fun W ty => ?_, fun i o hi => ?_⟩⟩
    · rw [hlen]; go_simp
    · have hi' : i < len := by
        have := (List.getElem?_eq_some_iff.1 hi).1
        rw [hlen] at this; exact this
      have ho : F i = o := by simpa [hi'] using hi
      subst ho
      exact ⟨a.add (i * 5), fun W => idx22 a len cap i hi' W, (hF i hi').1, (hF i hi').2⟩

namespace Row
/-- The three laid tables. -/
theorem consts3 {W : World} (n1 n2 n0 : String) (g1 : Tryd.prog.globalNamed n1 = some 2) (g2 : Tryd.prog.globalNamed n2 = some 1) (g0 : Tryd.prog.globalNamed n0 = some 0)
    (h : laidMetH Tryd.prog [(n1, Rows.laid_lethe_letheref02_constants), (n2, Rows.laid_lethe_letheref02_begin), (n0, Rows.laid_lethe_sha_constants)] W) : Kst W ∧ Rst W ∧ Bst W := by
  have hm : laidMet Tryd.prog [(n1, Rows.laid_lethe_letheref02_constants), (n2, Rows.laid_lethe_letheref02_begin), (n0, Rows.laid_lethe_sha_constants)] W := h
  have hm1 := hm.tail
  have hm2 := hm1.tail
  refine ⟨consts_of n0 g0 hm2, fun t ht => ?_, fun t ht => ?_⟩
  · rw [kw_wn t ht]
    have htab : Lib.TabIs Tryd.prog W n1 .u64 (Kn.map (fun n : Nat => (n : Int))) := Lib.tabIs_of_head (t := 86) (e := 83) (n := 64) g1 (by kernel_rfl) (by kernel_rfl) (by kernel_rfl) (by kernel_rfl) (by kernel_rfl) hm
    have hl : t < (Kn.map (fun n : Nat => (n : Int))).length := by rw [List.length_map, kn_length]; exact ht
    have := htab.cell g1 t hl
    simpa [List.getD_eq_getElem?_getD, List.getElem?_eq_getElem hl] using this
  · have htab : Lib.TabIs Tryd.prog W n2 .u64 (iv.map wn) := Lib.tabIs_of_head (t := 85) (e := 83) (n := 8) g2 (by kernel_rfl) (by kernel_rfl) (by kernel_rfl) (by kernel_rfl) (by kernel_rfl) hm1
    have hl : t < (iv.map wn).length := by rw [List.length_map, iv_length]; exact ht
    have := htab.cell g2 t hl
    rw [this]
    congr 2
    rw [List.getD_eq_getElem?_getD, List.getElem?_eq_getElem hl, List.getElem_map, List.getD_eq_getElem?_getD, List.getElem?_eq_getElem (by rw [iv_length]; exact ht)]
    rfl
end Row
end Go.Proofs.YtablmkijlpoaaabDoor
