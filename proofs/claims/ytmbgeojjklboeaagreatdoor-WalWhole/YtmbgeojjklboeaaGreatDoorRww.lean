import Derived.Test.YtmbgeojjklboeaaGreatDoorUniG
import Derived.Test.YtmbgeojjklboeaaGreatDoorQuG
import Derived.Deep.Strs
import Derived.LaidHandle
set_option linter.unusedVariables false
set_option linter.unusedSimpArgs false
namespace Go.Proofs.YtmbgeojjklboeaaGreatDoor
open Go.ChangeShapes Go.WideShapes Go.ChangeAt Go.RowKit

theorem cells24 : Tryz.prog.cellsOf 24 = 3 := by kernel_rfl
theorem cells55 : Tryz.prog.cellsOf 55 = 3 := by kernel_rfl
theorem cells33 : Tryz.prog.cellsOf 33 = 4 := by kernel_rfl
theorem cells65 : Tryz.prog.cellsOf 65 = 4 := by kernel_rfl
theorem cells63 : Tryz.prog.cellsOf 63 = 3 := by kernel_rfl
theorem cells3x : Tryz.prog.cellsOf 3 = 1 := by kernel_rfl
theorem cells4x : Tryz.prog.cellsOf 4 = 1 := by kernel_rfl
theorem cells22 : Tryz.prog.cellsOf 22 = 1 := by kernel_rfl
theorem cells30 : Tryz.prog.cellsOf 30 = 1 := by kernel_rfl
theorem cells31 : Tryz.prog.cellsOf 31 = 1 := by kernel_rfl
theorem cells61 : Tryz.prog.cellsOf 61 = 1 := by kernel_rfl
theorem three_of (cs : List Value) (h : cs.length = 3) : ∃ c0 c1 c2, cs = [c0, c1, c2] := by
  match cs, h with
  | [c0, c1, c2], _ => exact ⟨c0, c1, c2, rfl⟩
theorem four_of (cs : List Value) (h : cs.length = 4) : ∃ c0 c1 c2 c3, cs = [c0, c1, c2, c3] := by
  match cs, h with
  | [c0, c1, c2, c3], _ => exact ⟨c0, c1, c2, c3, rfl⟩
section
variable {H : Type} {enc : TypeId × Value → H} {W : World} {base : Nat} {spare : Nat → Bool} {held : Bool} {fuel : Nat} {cs : List Value} {x : DataW H × List MemPlace}
theorem fld_of {t : TypeId} {fs : Array Field} (ht : Tryz.prog.underlying t = some (.struct fs)) (h : DataW.trod enc Tryz.prog W base spare held fuel t cs = some x) : cs.length = Tryz.prog.cellsOf t ∧ ∃ n, ∀ (i : Nat) (f : Field), fs[i]? = some f → ∃ y, DataW.trod enc Tryz.prog W base spare held n f.type ((cs.drop f.offset).take (Tryz.prog.cellsOf f.type)) = some y ∧ ∀ m ∈ y.1.weights Tryz.prog f.type, m ∈ x.1.weights Tryz.prog t := by
  obtain ⟨xs, n, _, hx, hl, hlen, hf⟩ := DataW.trod_struct ht h
  refine ⟨hl, n, fun i f hi => ?_⟩
  have hil : i < fs.size := (Array.getElem?_eq_some_iff.1 hi).1
  refine ⟨xs[i]'(by omega), by rw [hf i f hi, List.getElem?_eq_getElem (by omega)], fun m hm => ?_⟩
  rw [hx]
  simp only [DataW.weights, ht]
  exact DataW.weights_mem_each (j := i) (by rw [List.getElem?_map, Array.getElem?_toList, hi]; rfl) (by rw [List.getElem?_map, List.getElem?_eq_getElem (by omega)]; rfl) m hm
theorem fld_at {t ft : TypeId} {fs : Array Field} {n off sz : Nat} (hf : ∀ (i : Nat) (f : Field), fs[i]? = some f → ∃ y, DataW.trod enc Tryz.prog W base spare held n f.type ((cs.drop f.offset).take (Tryz.prog.cellsOf f.type)) = some y ∧ ∀ m ∈ y.1.weights Tryz.prog f.type, m ∈ x.1.weights Tryz.prog t) (i : Nat) {f : Field} (hi : fs[i]? = some f) (ht : f.type = ft) (ho : f.offset = off) (hs : Tryz.prog.cellsOf ft = sz) : ∃ y, DataW.trod enc Tryz.prog W base spare held n ft ((cs.drop off).take sz) = some y ∧ ∀ m ∈ y.1.weights Tryz.prog ft, m ∈ x.1.weights Tryz.prog t := by
  subst ht ho hs
  exact hf i f hi
theorem weights_all {t : TypeId} {d : DataW H} : ∀ {l : List (DataW H)}, d ∈ l → ∀ m ∈ d.weights Tryz.prog t, m ∈ DataW.weightsAll Tryz.prog t l
  | a :: r, h, m, hm => by
    simp only [DataW.weightsAll, List.mem_append]
    rcases List.mem_cons.1 h with rfl | h
    · exact .inl hm
    · exact .inr (weights_all h m hm)
set_option maxRecDepth 100000 in
theorem nums_of (h : DataW.trod enc Tryz.prog W base spare held fuel 61 cs = some x) (hw : ∀ n ∈ x.1.weights Tryz.prog 61, n ≤ 140737488351232) :
    ∃ v ks, cs = [v] ∧ Has64 W v ks ∧ ks.length ≤ 17592186044416 ∧ (ks ≠ [] → ∀ k, v.ownBlock = some k → k < W.heap.size) := by
  rcases open_ints Tryz.underlying61 Tryz.underlying168 (by kernel_rfl) h with ⟨rfl, _⟩ | ⟨a, len, cap, zs, rfl, _, hl, hm, hz, hx, hcell, hwz⟩
  · exact ⟨_, [], rfl, Has64.nil _, Nat.zero_le _, fun h => absurd rfl h⟩
  · have hzl : len ≤ zs.length := by rw [hz]; split <;> omega
    have hlen : ((zs.take len).map fun n => BitVec.ofNat 64 n.toNat).length = len := by simp; omega
    have hb8 : Tryz.prog.bytesOf 168 = 8 := by kernel_rfl
    have hle : len ≤ 17592186044416 := by
      have h1 := hw (((lits (H := H) .u64 (zs.take len)).length + (lits (H := H) .u64 (zs.drop len)).length) * Tryz.prog.bytesOf 168) (by rw [hx]; simp [DataW.weights, Tryz.underlying61])
      rw [hb8] at h1
      simp only [lits, List.length_map, List.length_take, List.length_drop] at h1
      omega
    refine ⟨_, (zs.take len).map fun n => BitVec.ofNat 64 n.toNat, rfl, .inr ⟨a, cap, by rw [hlen], by rw [hlen]; exact hl, fun i u hu => ?_⟩, by rw [hlen]; exact hle, fun hne k hk => ?_⟩
    · have hi : i < len := by
        rcases Nat.lt_or_ge i len with h | h
        · exact h
        · rw [List.getElem?_eq_none (by omega)] at hu; cases hu
      rw [List.getElem?_map, List.getElem?_take_of_lt hi, List.getElem?_eq_getElem (by omega)] at hu
      simp only [Option.map_some, Option.some.injEq] at hu
      rw [hcell i (by omega), ← hu]
      have hb := bounds_u64 (hwz _ (List.getElem_mem (show i < zs.length by omega)))
      simp only [List.getD_eq_getElem?_getD, List.getElem?_eq_getElem (show i < zs.length by omega), Option.getD_some, wv, wn]
      rw [BitVec.toNat_ofNat, Nat.mod_eq_of_lt (by omega)]
      congr 2
      omega
    · have h0 : 0 < zs.length := by
        rcases Nat.eq_zero_or_pos zs.length with e | e
        · exact absurd (List.eq_nil_of_length_eq_zero (by rw [hlen]; omega)) hne
        · exact e
      have hc := hcell 0 h0
      have hk' : a.block = k := by simpa [Value.ownBlock] using hk
      rw [← hk']
      exact cell_lt hc
theorem page_of_trod (h : DataW.trod enc Tryz.prog W base spare held fuel 55 cs = some x) (hl : cs.length = 3) : ∃ g, cs = gpC g := by
  obtain ⟨y0, y1, y2, n, _, _, t0, t1, t2⟩ := Deep.trod_struct3 Tryz.underlying55 h
  obtain ⟨c0, c1, c2, rfl⟩ := three_of cs hl
  dsimp only at t0 t1 t2
  rw [cells3x] at t0 t2
  rw [Row.cells5] at t1
  obtain ⟨k0, e0, _, _⟩ := DataW.trod_int Tryz.underlying3 t0
  obtain ⟨k1, e1, _, w1⟩ := DataW.trod_int Tryz.underlying5 t1
  obtain ⟨k2, e2, _, _⟩ := DataW.trod_int Tryz.underlying3 t2
  simp only [List.drop_zero, List.take_succ_cons, List.take_zero, List.drop_succ_cons, List.cons.injEq, and_true] at e0 e1 e2
  have w1' := Row.wf_byte w1
  refine ⟨⟨k0, UInt8.ofNat k1.toNat, k2⟩, ?_⟩
  rw [e0, e1, e2]
  unfold gpC byt
  dsimp only
  rw [UInt8.toNat_ofNat', Nat.mod_eq_of_lt (by omega), show ((k1.toNat : Nat) : Int) = k1 by omega]
end
instance : Inhabited Gp := ⟨⟨0, 0, 0⟩⟩
theorem ix30 (ad : Addr) (n cap m : Nat) (h : m < n) (W : World) : (Instr.indexAt 30 (.slice (some ad) n cap) (.int .i64 (m : Int))).run Tryz.prog W = .ok (.pointer (some (ad.add (m * 3)))) W := by
  have hm : (m : Int) < (n : Int) := by omega
  go_simp
theorem idx22 (ad : Addr) (n cap m : Nat) (h : m < n) (W : World) : (Instr.indexAt 22 (.slice (some ad) n cap) (.int .i64 (m : Int))).run Tryz.prog W = .ok (.pointer (some (ad.add (m * 4)))) W := by
  have hm : (m : Int) < (n : Int) := by omega
  go_simp
theorem idx31 (ad : Addr) (n cap m : Nat) (h : m < n) (W : World) : (Instr.indexAt 31 (.slice (some ad) n cap) (.int .i64 (m : Int))).run Tryz.prog W = .ok (.pointer (some (ad.add (m * 4)))) W := by
  have hm : (m : Int) < (n : Int) := by omega
  go_simp
theorem len22x (a : Option Addr) (n c : Nat) (W : World) (ty : TypeId) : (Builtin.len_ #[22] ty #[.slice a n c]).run Tryz.prog W = .ok (.int .i64 (n : Int)) W := by go_simp
theorem len31x (a : Option Addr) (n c : Nat) (W : World) (ty : TypeId) : (Builtin.len_ #[31] ty #[.slice a n c]).run Tryz.prog W = .ok (.int .i64 (n : Int)) W := by go_simp
theorem cut31 (ad : Addr) (n cap : Nat) (h0 : 0 < n) (hc : n ≤ cap) (W : World) : (Instr.sliceAt 31 (.slice (some ad) n cap) (some (.int .i64 1)) none none).run Tryz.prog W = .ok (.slice (some (if cap = 1 then ad else ad.add 4)) (n - 1) (cap - 1)) W := by
  have h1 : (1 : Int) ≤ (n : Int) := by omega
  have h2 : (n : Int) ≤ (cap : Int) := by omega
  go_simp
  split <;> rfl
theorem f65_0 (ad : Addr) (W : World) : (Instr.fieldAt 65 (.pointer (some ad)) 0).run Tryz.prog W = .ok (.pointer (some (ad.add 0))) W := by go_simp
theorem f65_1 (ad : Addr) (W : World) : (Instr.fieldAt 65 (.pointer (some ad)) 1).run Tryz.prog W = .ok (.pointer (some (ad.add 1))) W := by go_simp
theorem f33_3 (ad : Addr) (W : World) : (Instr.fieldAt 33 (.pointer (some ad)) 3).run Tryz.prog W = .ok (.pointer (some (ad.add 3))) W := by go_simp
theorem i55 (g : Gp) : (Tryz.prog.info? 55).map (·.size) = some (gpC g).length := by show _ = some 3; kernel_rfl
theorem i33 (a b : Value) (c d : Bool) : (Tryz.prog.info? 33).map (·.size) = some (tnC a b c d).length := by show _ = some 4; kernel_rfl
theorem i63 (v : Value) (t o : Int) : (Tryz.prog.info? 63).map (·.size) = some (lossC v t o).length := by show _ = some 3; kernel_rfl
theorem ld3x (n : Int) (ad : Addr) (W : World) (h : W.cell? ad = some (.int .i64 n)) : (Instr.loadAt 3 (.pointer (some ad))).run Tryz.prog W = .ok (.int .i64 n) W := by go_simp
theorem ld4x (b : Bool) (ad : Addr) (W : World) (h : W.cell? ad = some (.bool b)) : (Instr.loadAt 4 (.pointer (some ad))).run Tryz.prog W = .ok (.bool b) W := by go_simp
section
variable {H : Type} {enc : TypeId × Value → H} {W : World} {base : Nat} {spare : Nat → Bool} {held : Bool} {fuel : Nat} {cs : List Value} {x : DataW H × List MemPlace}
set_option maxRecDepth 100000 in
theorem pages_of_trod (h : DataW.trod enc Tryz.prog W base spare held fuel 30 cs = some x) : ∃ v gs, cs = [v] ∧ Gs W v gs := by
  rcases Deep.open_slice Tryz.underlying30 h with ⟨rfl, _⟩ | ⟨a, len, cap, m, n, D, Pl, rfl, _, hl, hm, hmm, hxx, hx⟩
  · exact ⟨_, [], rfl, Gs.nil _⟩
  · have hlm : len ≤ m := by rw [hmm]; split <;> omega
    obtain ⟨F, hF⟩ := Deep.choose_lt (α := Gp) (n := len) (p := fun i g => At W (a.add (i * 3)) (gpC g)) (fun i hi => by
      obtain ⟨cs', h1, h2⟩ := hx i (by omega)
      rw [cells55] at h1
      obtain ⟨_, hlen, hc⟩ := World.cells?_some h1
      obtain ⟨g, rfl⟩ := page_of_trod h2 hlen
      refine ⟨g, fun j v hj => ?_⟩
      have hjl : j < 3 := (List.getElem?_eq_some_iff.1 hj).1
      exact (hc j hjl).trans hj)
    have hlen : ((List.range len).map F).length = len := by simp
    refine ⟨_, (List.range len).map F, rfl, ⟨⟨some a, cap, by rw [hlen]⟩, fun i g hi => ?_⟩⟩
    have hi' : i < len := by
      have := (List.getElem?_eq_some_iff.1 hi).1
      rw [hlen] at this; exact this
    have ho : F i = g := by simpa [hi'] using hi
    subst ho
    exact ⟨a.add (i * 3), fun W => ix30 a len cap i hi' W, fun W' hW' => run_loadA ((hF i hi').below hW') Tryz.underlying55 rfl (i55 _)⟩
theorem fall_of (h : DataW.trod enc Tryz.prog W base spare held fuel 65 cs = some x) (hw : ∀ n ∈ x.1.weights Tryz.prog 65, n ≤ 140737488351232) : ∃ st vk ks torn off, cs = .int .i64 st :: lossC vk torn off ∧ Has64 W vk ks ∧ ks.length ≤ 17592186044416 ∧ (ks ≠ [] → ∀ k, vk.ownBlock = some k → k < W.heap.size) := by
  obtain ⟨hl, n, hf⟩ := fld_of Tryz.underlying65 h
  rw [cells65] at hl
  obtain ⟨c0, c1, c2, c3, rfl⟩ := four_of cs hl
  obtain ⟨y0, t0, m0⟩ := fld_at hf 0 (ft := 3) (off := 0) (sz := 1) rfl rfl rfl cells3x
  obtain ⟨y1, t1, m1⟩ := fld_at hf 1 (ft := 63) (off := 1) (sz := 3) rfl rfl rfl cells63
  obtain ⟨_, n', hf'⟩ := fld_of Tryz.underlying63 t1
  obtain ⟨z0, u0, q0⟩ := fld_at hf' 0 (ft := 61) (off := 0) (sz := 1) rfl rfl rfl cells61
  obtain ⟨z1, u1, q1⟩ := fld_at hf' 1 (ft := 3) (off := 1) (sz := 1) rfl rfl rfl cells3x
  obtain ⟨z2, u2, q2⟩ := fld_at hf' 2 (ft := 3) (off := 2) (sz := 1) rfl rfl rfl cells3x
  obtain ⟨st, e0, _, _⟩ := DataW.trod_int Tryz.underlying3 t0
  obtain ⟨vk, ks, e1, k1, k2, k3⟩ := nums_of u0 (fun n hn => hw n (m1 n (q0 n hn)))
  obtain ⟨torn, e2, _, _⟩ := DataW.trod_int Tryz.underlying3 u1
  obtain ⟨off, e3, _, _⟩ := DataW.trod_int Tryz.underlying3 u2
  simp only [List.drop_zero, List.take_succ_cons, List.take_zero, List.drop_succ_cons, List.cons.injEq, and_true] at e0 e1 e2 e3
  exact ⟨st, vk, ks, torn, off, by rw [e0, e1, e2, e3]; rfl, k1, k2, k3⟩
theorem Fl1.of {a : Addr} {len cap i : Nat} {st torn off : Int} {vk : Value} {ks : List (BitVec 64)} (hi : i < len) (hA : At W (a.add (i * 4)) (.int .i64 st :: lossC vk torn off)) (h1 : Has64 W vk ks) (h2 : ks.length ≤ 17592186044416) (h3 : ks ≠ [] → ∀ k, vk.ownBlock = some k → k < W.heap.size) : Fl1 W (.slice (some a) len cap) i := by
  refine ⟨st, vk, ks, torn, off, _, _, _, fun W => idx31 a len cap i hi W, fun W => f65_0 _ W, fun W => f65_1 _ W, fun W' hW' => ?_, fun W' hW' => ?_, h1, h2, h3⟩
  · exact ld3x st _ W' ((hA.below hW') 0 _ rfl)
  · refine run_loadA (cs := lossC vk torn off) (At.below (fun j v hj => ?_) hW') Tryz.underlying63 rfl (i63 _ _ _)
    have := hA (j + 1) v (by simpa using hj)
    rw [Addr.add_add]
    rwa [Nat.add_comm 1 j]
set_option maxRecDepth 100000 in
theorem falls_of (h : DataW.trod enc Tryz.prog W base spare held fuel 31 cs = some x) (hw : ∀ n ∈ x.1.weights Tryz.prog 31, n ≤ 140737488351232) : ∃ v m, cs = [v] ∧ Fl2 W v m := by
  rcases Deep.open_slice Tryz.underlying31 h with ⟨rfl, _⟩ | ⟨a, len, cap, m, n, D, Pl, rfl, _, hl, hm, hmm, hxx, hx⟩
  · exact ⟨_, 0, rfl, ⟨⟨fun W ty => len31x _ _ _ W ty, fun i hi => absurd hi (Nat.not_lt_zero _)⟩, fun h => absurd h (Nat.lt_irrefl 0)⟩⟩
  · have hlm : len ≤ m := by rw [hmm]; split <;> omega
    have hall : ∀ i, i < len → ∃ st vk ks torn off, At W (a.add (i * 4)) (.int .i64 st :: lossC vk torn off) ∧ Has64 W vk ks ∧ ks.length ≤ 17592186044416 ∧ (ks ≠ [] → ∀ k, vk.ownBlock = some k → k < W.heap.size) := fun i hi => by
      obtain ⟨cs', h1, h2⟩ := hx i (by omega)
      rw [cells65] at h1
      obtain ⟨_, hlen, hc⟩ := World.cells?_some h1
      obtain ⟨st, vk, ks, torn, off, rfl, k1, k2, k3⟩ := fall_of h2 (fun k hk => hw k (by
        rw [hxx]
        simp only [DataW.weights, Tryz.underlying31]
        exact List.mem_cons_of_mem _ (List.mem_append.2 (.inl (weights_all (d := D i) (List.mem_map.2 ⟨i, List.mem_range.2 hi, rfl⟩) k hk)))))
      refine ⟨st, vk, ks, torn, off, fun j v hj => ?_, k1, k2, k3⟩
      have hjl : j < 4 := by rw [← hlen]; exact (List.getElem?_eq_some_iff.1 hj).1
      exact (hc j hjl).trans hj
    refine ⟨_, len, rfl, ⟨⟨fun W ty => len31x _ _ _ W ty, fun i hi => ?_⟩, fun h0 => ?_⟩⟩
    · obtain ⟨st, vk, ks, torn, off, k0, k1, k2, k3⟩ := hall i hi
      exact Fl1.of hi k0 k1 k2 k3
    · refine ⟨_, cut31 a len cap h0 hl, ⟨fun W ty => len31x _ _ _ W ty, fun i hi => ?_⟩⟩
      obtain ⟨st, vk, ks, torn, off, k0, k1, k2, k3⟩ := hall (i + 1) (by omega)
      rw [if_neg (by omega)]
      refine Fl1.of (st := st) (torn := torn) (off := off) hi ?_ k1 k2 k3
      rw [Addr.add_add, show 4 + i * 4 = (i + 1) * 4 by omega]
      exact k0
set_option maxRecDepth 100000 in
theorem turns_of_trod (h : DataW.trod enc Tryz.prog W base spare held fuel 22 cs = some x) (hw : ∀ n ∈ x.1.weights Tryz.prog 22, n ≤ 140737488351232) : ∃ v n, cs = [v] ∧ Tls W v n := by
  rcases Deep.open_slice Tryz.underlying22 h with ⟨rfl, _⟩ | ⟨a, len, cap, m, n, D, Pl, rfl, _, hl, hm, hmm, hxx, hx⟩
  · exact ⟨_, 0, rfl, ⟨fun W ty => len22x _ _ _ W ty, fun i hi => absurd hi (Nat.not_lt_zero _)⟩⟩
  · have hlm : len ≤ m := by rw [hmm]; split <;> omega
    refine ⟨_, len, rfl, ⟨fun W ty => len22x _ _ _ W ty, fun i hi => ?_⟩⟩
    obtain ⟨cs', h1, h2⟩ := hx i (by omega)
    rw [cells33] at h1
    obtain ⟨_, hlen, hc⟩ := World.cells?_some h1
    have hwi : ∀ k ∈ (D i).weights Tryz.prog 33, k ≤ 140737488351232 := fun k hk => hw k (by
      rw [hxx]
      simp only [DataW.weights, Tryz.underlying22]
      exact List.mem_cons_of_mem _ (List.mem_append.2 (.inl (weights_all (d := D i) (List.mem_map.2 ⟨i, List.mem_range.2 hi, rfl⟩) k hk))))
    obtain ⟨_, n', hf⟩ := fld_of Tryz.underlying33 h2
    obtain ⟨c0, c1, c2, c3, rfl⟩ := four_of cs' hlen
    obtain ⟨y0, t0, m0⟩ := fld_at hf 0 (ft := 30) (off := 0) (sz := 1) rfl rfl rfl cells30
    obtain ⟨y1, t1, m1⟩ := fld_at hf 1 (ft := 4) (off := 1) (sz := 1) rfl rfl rfl cells4x
    obtain ⟨y2, t2, m2⟩ := fld_at hf 2 (ft := 31) (off := 2) (sz := 1) rfl rfl rfl cells31
    obtain ⟨y3, t3, m3⟩ := fld_at hf 3 (ft := 4) (off := 3) (sz := 1) rfl rfl rfl cells4x
    obtain ⟨vp, gs, e0, hgs⟩ := pages_of_trod t0
    obtain ⟨b1, e1, _⟩ := DataW.trod_bool Tryz.underlying4 t1
    obtain ⟨vf, mm, e2, hfl⟩ := falls_of t2 (fun k hk => hwi k (m2 k hk))
    obtain ⟨b3, e3, _⟩ := DataW.trod_bool Tryz.underlying4 t3
    simp only [List.drop_zero, List.take_succ_cons, List.take_zero, List.drop_succ_cons, List.cons.injEq, and_true] at e0 e1 e2 e3
    subst e0 e1 e2 e3
    have hA : At W (a.add (i * 4)) (tnC c0 c2 b1 b3) := fun j v hj => by
      have hjl : j < 4 := (List.getElem?_eq_some_iff.1 hj).1
      exact (hc j hjl).trans hj
    refine ⟨⟨_, _, c0, c2, b1, b3, gs, mm, fun W => idx22 a len cap i hi W, fun W' hW' => run_loadA (cs := tnC c0 c2 b1 b3) (hA.below hW') Tryz.underlying33 rfl (i33 _ _ _ _), fun W => f33_3 _ W, fun W' hW' => ld4x b3 _ W' ((hA.below hW') 3 _ rfl), hgs, hfl⟩⟩
theorem life_of_trod (h : DataW.trod enc Tryz.prog W base spare held fuel 24 cs = some x) (hw : ∀ n ∈ x.1.weights Tryz.prog 24, n ≤ 140737488351232) :
    ∃ a m v n, cs = lfC a m v ∧ Tls W v n := by
  obtain ⟨hl, n, hf⟩ := fld_of Tryz.underlying24 h
  rw [cells24] at hl
  obtain ⟨c0, c1, c2, rfl⟩ := three_of cs hl
  obtain ⟨y0, t0, m0⟩ := fld_at hf 0 (ft := 3) (off := 0) (sz := 1) rfl rfl rfl cells3x
  obtain ⟨y1, t1, m1⟩ := fld_at hf 1 (ft := 3) (off := 1) (sz := 1) rfl rfl rfl cells3x
  obtain ⟨y2, t2, m2⟩ := fld_at hf 2 (ft := 22) (off := 2) (sz := 1) rfl rfl rfl cells22
  obtain ⟨k0, e0, _, _⟩ := DataW.trod_int Tryz.underlying3 t0
  obtain ⟨k1, e1, _, _⟩ := DataW.trod_int Tryz.underlying3 t1
  obtain ⟨v, n, e2, hT⟩ := turns_of_trod t2 (fun k hk => hw k (m2 k hk))
  simp only [List.drop_zero, List.take_succ_cons, List.take_zero, List.drop_succ_cons, List.cons.injEq, and_true] at e0 e1 e2
  subst e0 e1 e2
  exact ⟨k0, k1, _, n, rfl, hT⟩
end

namespace Row
theorem et : Tryz.prog.globalNamed "errors.errorType" = some 0 := by kernel_rfl
theorem oneRow : ((List.range Tryz.prog.types.size).filter fun t => Tryz.prog.rowNamed t [101, 114, 114, 111, 114]) = [46] := by kernel_rfl
/-- What the condition gives a walk: the variable's one cell. -/
theorem handle_of {W : World} (h : laidMetH Tryz.prog [("errors.errorType", Rows.laid_errors_errorType)] W) : W.cell? ⟨0, 0, none⟩ = some (rty 46) := by
  have h' : laidMet Tryz.prog [] W ∧ handlesMet Tryz.prog [("errors.errorType", Rows.laid_errors_errorType)] W := h
  obtain ⟨name, u, ty, e1, e2, e3, e4, e5⟩ := h'.2 _ (List.mem_singleton.2 rfl)
  have en : name = [101, 114, 114, 111, 114] := (Option.some.inj e1).symm
  subst en
  have e2' : some 144 = some u := Eq.trans (by kernel_rfl) e2
  obtain rfl := Option.some.inj e2'
  have hm : ty ∈ (List.range Tryz.prog.types.size).filter fun t => Tryz.prog.rowNamed t [101, 114, 114, 111, 114] := List.mem_filter.2 ⟨List.mem_range.2 e3, e4⟩
  rw [oneRow] at hm
  obtain rfl := List.mem_singleton.1 hm
  have hh : typeHandle Tryz.prog 46 = hdl 46 := by kernel_rfl
  rw [hh] at e5
  have h0 : W.cell? ⟨0, 0, none⟩ = some (Value.iface 144 (Value.agg #[hdl 46])) := by simpa using World.var?_cell et e5 0
  exact h0
end Row
end Go.Proofs.YtmbgeojjklboeaaGreatDoor
