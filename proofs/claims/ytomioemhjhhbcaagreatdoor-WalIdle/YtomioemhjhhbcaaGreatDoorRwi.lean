import Derived.Test.YtomioemhjhhbcaaGreatDoorWordsG
import Derived.Test.YtomioemhjhhbcaaGreatDoorVc
import Derived.Deep.Strs
import Derived.LaidHandle
set_option linter.unusedVariables false
set_option linter.unusedSimpArgs false
namespace Go.Proofs.YtomioemhjhhbcaaGreatDoor
open Go.ChangeShapes Go.WideShapes Go.ChangeAt Go.RowKit

theorem cells24 : Tryz.prog.cellsOf 24 = 3 := by kernel_rfl
theorem cells26 : Tryz.prog.cellsOf 26 = 3 := by kernel_rfl
theorem cells34 : Tryz.prog.cellsOf 34 = 4 := by kernel_rfl
theorem cells3x : Tryz.prog.cellsOf 3 = 1 := by kernel_rfl
theorem cells4x : Tryz.prog.cellsOf 4 = 1 := by kernel_rfl
theorem cells22 : Tryz.prog.cellsOf 22 = 1 := by kernel_rfl
theorem cells31 : Tryz.prog.cellsOf 31 = 1 := by kernel_rfl
theorem cells32 : Tryz.prog.cellsOf 32 = 1 := by kernel_rfl
theorem three_of (cs : List Value) (h : cs.length = 3) : ∃ c0 c1 c2, cs = [c0, c1, c2] := by
  match cs, h with
  | [c0, c1, c2], _ => exact ⟨c0, c1, c2, rfl⟩
theorem four_of (cs : List Value) (h : cs.length = 4) : ∃ c0 c1 c2 c3, cs = [c0, c1, c2, c3] := by
  match cs, h with
  | [c0, c1, c2, c3], _ => exact ⟨c0, c1, c2, c3, rfl⟩
theorem trod_struct4b {H : Type} {enc : TypeId × Value → H} {P : Program} {w : World} {base : Nat} {spare : Nat → Bool} {held : Bool} {t : TypeId} {f0 f1 f2 f3 : Field} {fuel : Nat} {cs : List Value} {x : DataW H × List MemPlace} (ht : P.underlying t = some (.struct #[f0, f1, f2, f3])) (h : DataW.trod enc P w base spare held fuel t cs = some x) :
    ∃ y0 y1 y2 y3 n, DataW.trod enc P w base spare held n f0.type ((cs.drop f0.offset).take (P.cellsOf f0.type)) = some y0 ∧
      DataW.trod enc P w base spare held n f1.type ((cs.drop f1.offset).take (P.cellsOf f1.type)) = some y1 ∧ DataW.trod enc P w base spare held n f2.type ((cs.drop f2.offset).take (P.cellsOf f2.type)) = some y2 ∧
      DataW.trod enc P w base spare held n f3.type ((cs.drop f3.offset).take (P.cellsOf f3.type)) = some y3 := by
  obtain ⟨xs, n, _, rfl, hl, hlen, hf⟩ := DataW.trod_struct ht h
  match xs, hlen with
  | [y0, y1, y2, y3], _ => exact ⟨y0, y1, y2, y3, n, by simpa using hf 0 f0 rfl, by simpa using hf 1 f1 rfl, by simpa using hf 2 f2 rfl, by simpa using hf 3 f3 rfl⟩
instance : Inhabited Gp := ⟨⟨0, 0, 0⟩⟩
theorem page_of_trod {H : Type} {enc : TypeId × Value → H} {W : World} {base : Nat} {spare : Nat → Bool} {held : Bool} {fuel : Nat} {cs : List Value} {x : DataW H × List MemPlace} (h : DataW.trod enc Tryz.prog W base spare held fuel 26 cs = some x) (hl : cs.length = 3) : ∃ g, cs = gpC g := by
  obtain ⟨y0, y1, y2, n, _, _, t0, t1, t2⟩ := Deep.trod_struct3 Tryz.underlying26 h
  obtain ⟨c0, c1, c2, rfl⟩ := three_of cs hl
  dsimp only at t0 t1 t2
  rw [cells3x] at t0 t2
  rw [Row.cells5] at t1
  obtain ⟨k0, e0, _, _⟩ := DataW.trod_int Tryz.underlying3 t0
  obtain ⟨k1, e1, _, w1⟩ := DataW.trod_int Tryz.underlying5 t1
  obtain ⟨k2, e2, _, _⟩ := DataW.trod_int Tryz.underlying3 t2
  simp only [List.drop_zero, List.take_succ_cons, List.take_zero, List.drop_succ_cons, List.cons.injEq, and_true] at e0 e1 e2
  have w1' := Row.wf_byte w1
  refine ⟨⟨k0, UInt8.ofNat k1.toNat, k2⟩, ?_⟩
  rw [e0, e1, e2]
  unfold gpC byt
  dsimp only
  rw [UInt8.toNat_ofNat', Nat.mod_eq_of_lt (by omega), show ((k1.toNat : Nat) : Int) = k1 by omega]
theorem idx31 (ad : Addr) (n cap m : Nat) (h : m < n) (W : World) : (Instr.indexAt 31 (.slice (some ad) n cap) (.int .i64 (m : Int))).run Tryz.prog W = .ok (.pointer (some (ad.add (m * 3)))) W := by
  have hm : (m : Int) < (n : Int) := by omega
  go_simp
theorem idx22 (ad : Addr) (n cap m : Nat) (h : m < n) (W : World) : (Instr.indexAt 22 (.slice (some ad) n cap) (.int .i64 (m : Int))).run Tryz.prog W = .ok (.pointer (some (ad.add (m * 4)))) W := by
  have hm : (m : Int) < (n : Int) := by omega
  go_simp
theorem i26 (g : Gp) : (Tryz.prog.info? 26).map (·.size) = some (gpC g).length := by show _ = some 3; kernel_rfl
set_option maxRecDepth 100000 in
theorem pages_of_trod {H : Type} {enc : TypeId × Value → H} {W : World} {base : Nat} {spare : Nat → Bool} {held : Bool} {fuel : Nat} {cs : List Value} {x : DataW H × List MemPlace} (h : DataW.trod enc Tryz.prog W base spare held fuel 31 cs = some x) : ∃ v gs, cs = [v] ∧ Gs W v gs := by
  rcases Deep.open_slice Tryz.underlying31 h with ⟨rfl, _⟩ | ⟨a, len, cap, m, n, D, Pl, rfl, _, hl, hm, hmm, hxx, hx⟩
  · exact ⟨_, [], rfl, Gs.nil _⟩
  · have hlm : len ≤ m := by rw [hmm]; split <;> omega
    obtain ⟨F, hF⟩ := Deep.choose_lt (α := Gp) (n := len) (p := fun i g => At W (a.add (i * 3)) (gpC g)) (fun i hi => by
      obtain ⟨cs', h1, h2⟩ := hx i (by omega)
      rw [cells26] at h1
      obtain ⟨_, hlen, hc⟩ := World.cells?_some h1
      obtain ⟨g, rfl⟩ := page_of_trod h2 hlen
      refine ⟨g, fun j v hj => ?_⟩
      have hjl : j < 3 := (List.getElem?_eq_some_iff.1 hj).1
      exact (hc j hjl).trans hj)
    have hlen : ((List.range len).map F).length = len := by simp
    refine ⟨_, (List.range len).map F, rfl, ⟨⟨some a, cap, by rw [hlen]⟩, fun i g hi => ?_⟩⟩
    have hi' : i < len := by
      have := (List.getElem?_eq_some_iff.1 hi).1
      rw [hlen] at this; exact this
    have ho : F i = g := by simpa [hi'] using hi
    subst ho
    exact ⟨a.add (i * 3), fun W => idx31 a len cap i hi' W, fun W' hW' => run_loadA ((hF i hi').below hW') Tryz.underlying26 rfl (i26 _)⟩
set_option maxRecDepth 100000 in
theorem turns_of_trod {H : Type} {enc : TypeId × Value → H} {W : World} {base : Nat} {spare : Nat → Bool} {held : Bool} {fuel : Nat} {cs : List Value} {x : DataW H × List MemPlace} (h : DataW.trod enc Tryz.prog W base spare held fuel 22 cs = some x) : ∃ v, cs = [v] ∧ Tl W v := by
  rcases Deep.open_slice Tryz.underlying22 h with ⟨rfl, _⟩ | ⟨a, len, cap, m, n, D, Pl, rfl, _, hl, hm, hmm, hxx, hx⟩
  · exact ⟨_, rfl, _, _, _, rfl, fun h => absurd h (Nat.lt_irrefl 0)⟩
  · have hlm : len ≤ m := by rw [hmm]; split <;> omega
    refine ⟨_, rfl, _, _, _, rfl, fun h0 => ?_⟩
    obtain ⟨cs', h1, h2⟩ := hx 0 (by omega)
    rw [cells34] at h1
    obtain ⟨_, hlen, hc⟩ := World.cells?_some h1
    obtain ⟨y0, y1, y2, y3, k, t0, t1, t2, t3⟩ := trod_struct4b Tryz.underlying34 h2
    obtain ⟨c0, c1, c2, c3, rfl⟩ := four_of cs' hlen
    dsimp only at t0 t1 t2 t3
    rw [cells31] at t0
    rw [cells4x] at t1 t3
    rw [cells32] at t2
    obtain ⟨vp, gs, e0, hgs⟩ := pages_of_trod t0
    obtain ⟨b1, e1, _⟩ := DataW.trod_bool Tryz.underlying4 t1
    obtain ⟨b3, e3, _⟩ := DataW.trod_bool Tryz.underlying4 t3
    obtain ⟨ao, fl, fc, e2⟩ : ∃ ao n c, [c2] = [Value.slice ao n c] := by
      rcases Deep.open_slice Tryz.underlying32 t2 with ⟨e, _⟩ | ⟨a, len, cap, _, _, _, _, e, _⟩
      · exact ⟨_, _, _, e⟩
      · exact ⟨_, _, _, e⟩
    simp only [List.drop_zero, List.take_succ_cons, List.take_zero, List.drop_succ_cons, List.cons.injEq, and_true] at e0 e1 e2 e3
    subst e0 e1 e2 e3
    refine ⟨a.add (0 * 4), c0, .slice ao fl fc, b1, b3, gs, fun W => idx22 a len cap 0 h0 W, fun W' hW' => run_loadA (At.below (fun j v hj => ?_) hW') Tryz.underlying34 rfl (i34 _ _ _ _), ⟨_, _, _, rfl⟩, hgs⟩
    have hjl : j < 4 := (List.getElem?_eq_some_iff.1 hj).1
    exact (hc j hjl).trans hj
theorem life_of_trod {H : Type} {enc : TypeId × Value → H} {W : World} {base : Nat} {spare : Nat → Bool} {held : Bool} {fuel : Nat} {cs : List Value} {x : DataW H × List MemPlace} (h : DataW.trod enc Tryz.prog W base spare held fuel 24 cs = some x) :
    ∃ a m v, cs = lfC a m v ∧ Tl W v := by
  obtain ⟨y0, y1, y2, n, _, hl, t0, t1, t2⟩ := Deep.trod_struct3 Tryz.underlying24 h
  rw [cells24] at hl
  obtain ⟨c0, c1, c2, rfl⟩ := three_of cs hl
  dsimp only at t0 t1 t2
  rw [cells3x] at t0 t1
  rw [cells22] at t2
  obtain ⟨k0, e0, _, _⟩ := DataW.trod_int Tryz.underlying3 t0
  obtain ⟨k1, e1, _, _⟩ := DataW.trod_int Tryz.underlying3 t1
  obtain ⟨v, e2, hT⟩ := turns_of_trod t2
  simp only [List.drop_zero, List.take_succ_cons, List.take_zero, List.drop_succ_cons, List.cons.injEq, and_true] at e0 e1 e2
  subst e0 e1 e2
  exact ⟨k0, k1, _, rfl, hT⟩

namespace Row
theorem et : Tryz.prog.globalNamed "errors.errorType" = some 0 := by kernel_rfl
theorem oneRow : ((List.range Tryz.prog.types.size).filter fun t => Tryz.prog.rowNamed t [101, 114, 114, 111, 114]) = [46] := by kernel_rfl
/-- What the condition gives a walk: the variable's one cell. -/
theorem handle_of {W : World} (h : laidMetH Tryz.prog [("errors.errorType", Rows.laid_errors_errorType)] W) : W.cell? ⟨0, 0, none⟩ = some (rty 46) := by
  have h' : laidMet Tryz.prog [] W ∧ handlesMet Tryz.prog [("errors.errorType", Rows.laid_errors_errorType)] W := h
  obtain ⟨name, u, ty, e1, e2, e3, e4, e5⟩ := h'.2 _ (List.mem_singleton.2 rfl)
  have en : name = [101, 114, 114, 111, 114] := (Option.some.inj e1).symm
  subst en
  have e2' : some 142 = some u := Eq.trans (by kernel_rfl) e2
  obtain rfl := Option.some.inj e2'
  have hm : ty ∈ (List.range Tryz.prog.types.size).filter fun t => Tryz.prog.rowNamed t [101, 114, 114, 111, 114] := List.mem_filter.2 ⟨List.mem_range.2 e3, e4⟩
  rw [oneRow] at hm
  obtain rfl := List.mem_singleton.1 hm
  have hh : typeHandle Tryz.prog 46 = hdl 46 := by kernel_rfl
  rw [hh] at e5
  have h0 : W.cell? ⟨0, 0, none⟩ = some (Value.iface 142 (Value.agg #[hdl 46])) := by simpa using World.var?_cell et e5 0
  exact h0
end Row
end Go.Proofs.YtomioemhjhhbcaaGreatDoor
