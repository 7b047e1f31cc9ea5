import Derived.Test.YtplfelfmkgjijaaRowK
import Derived.Test.YtplfelfmkgjijaaNc
import Derived.Deep.Strs
import Derived.ShutString
import Derived.JoinedCond
set_option linter.unusedVariables false
set_option linter.unusedSimpArgs false
namespace Go.Proofs.Ytplfelfmkgjijaa
open Go.ChangeShapes Go.WideShapes Go.ChangeAt Go.RowKit

section
variable {H : Type} {enc : TypeId × Value → H} {W : World} {base : Nat} {spare : Nat → Bool} {held : Bool} {fuel : Nat} {cs : List Value} {x : DataW H × List MemPlace}
theorem fld_of {t : TypeId} {fs : Array Field} (ht : Try.prog.underlying t = some (.struct fs)) (h : DataW.trod enc Try.prog W base spare held fuel t cs = some x) : cs.length = Try.prog.cellsOf t ∧ ∃ n, ∀ (i : Nat) (f : Field), fs[i]? = some f → ∃ y, DataW.trod enc Try.prog W base spare held n f.type ((cs.drop f.offset).take (Try.prog.cellsOf f.type)) = some y ∧ ∀ m ∈ y.1.weights Try.prog f.type, m ∈ x.1.weights Try.prog t := by
  obtain ⟨xs, n, _, hx, hl, hlen, hf⟩ := DataW.trod_struct ht h
  refine ⟨hl, n, fun i f hi => ?_⟩
  have hil : i < fs.size := (Array.getElem?_eq_some_iff.1 hi).1
  refine ⟨xs[i]'(by omega), by rw [hf i f hi, List.getElem?_eq_getElem (by omega)], fun m hm => ?_⟩
  rw [hx]
  simp only [DataW.weights, ht]
  exact DataW.weights_mem_each (j := i) (by rw [List.getElem?_map, Array.getElem?_toList, hi]; rfl) (by rw [List.getElem?_map, List.getElem?_eq_getElem (by omega)]; rfl) m hm
theorem fld_at {t ft : TypeId} {fs : Array Field} {n off sz : Nat} (hf : ∀ (i : Nat) (f : Field), fs[i]? = some f → ∃ y, DataW.trod enc Try.prog W base spare held n f.type ((cs.drop f.offset).take (Try.prog.cellsOf f.type)) = some y ∧ ∀ m ∈ y.1.weights Try.prog f.type, m ∈ x.1.weights Try.prog t) (i : Nat) {f : Field} (hi : fs[i]? = some f) (ht : f.type = ft) (ho : f.offset = off) (hs : Try.prog.cellsOf ft = sz) : ∃ y, DataW.trod enc Try.prog W base spare held n ft ((cs.drop off).take sz) = some y ∧ ∀ m ∈ y.1.weights Try.prog ft, m ∈ x.1.weights Try.prog t := by
  subst ht ho hs
  exact hf i f hi
theorem weights_all {t : TypeId} {d : DataW H} : ∀ {l : List (DataW H)}, d ∈ l → ∀ m ∈ d.weights Try.prog t, m ∈ DataW.weightsAll Try.prog t l
  | a :: r, h, m, hm => by
    simp only [DataW.weightsAll, List.mem_append]
    rcases List.mem_cons.1 h with rfl | h
    · exact .inl hm
    · exact .inr (weights_all h m hm)
set_option maxRecDepth 100000 in
theorem bytes_of (h : DataW.trod enc Try.prog W base spare held fuel 29 cs = some x) (hw : ∀ n ∈ x.1.weights Try.prog 29, n ≤ 140737488351232) : ∃ v bs, cs = [v] ∧ Has W v bs ∧ bs.length ≤ 140737488351232 := by
  rcases Deep.open_slice Try.underlying29 h with ⟨rfl, _⟩ | ⟨a, len, cap, m, n, D, Pl, rfl, _, hl, hm, hmm, hxx, hx⟩
  · exact ⟨_, [], rfl, Has.nil _, by decide⟩
  · have hlm : len ≤ m := by rw [hmm]; split <;> omega
    have hc1 : Try.prog.cellsOf 5 = 1 := by kernel_rfl
    obtain ⟨F, hF⟩ := Deep.choose_lt (α := UInt8) (n := len) (p := fun i u => W.cell? (a.add i) = some (byt u)) (fun i hi => by
      obtain ⟨cs', h1, h2⟩ := hx i (by omega)
      rw [hc1, Nat.mul_one] at h1
      obtain ⟨_, hlen, hc⟩ := World.cells?_some h1
      obtain ⟨z, e, _, hwf⟩ := DataW.trod_int Try.underlying5 h2
      have hb := Row.wf_byte hwf
      refine ⟨UInt8.ofNat z.toNat, ?_⟩
      have := hc 0 (by decide)
      rw [e, Addr.add_zero'] at this
      rw [this]
      unfold byt
      rw [UInt8.toNat_ofNat', Nat.mod_eq_of_lt (by omega)]
      show some (Value.int .u8 z) = _
      congr 2
      omega)
    have hlen : ((List.range len).map F).length = len := by simp
    have hby : Try.prog.bytesOf 5 = 1 := by kernel_rfl
    have hle : len ≤ 140737488351232 := by
      have h1 := hw ((((List.range len).map D).length + ((List.range (m - len)).map fun j => D (len + j)).length) * Try.prog.bytesOf 5) (by rw [hxx]; simp [DataW.weights, Try.underlying29])
      rw [hby] at h1
      simp only [List.length_map, List.length_range] at h1
      omega
    refine ⟨_, (List.range len).map F, rfl, .inr ⟨a, cap, by rw [hlen], by rw [hlen]; exact hl, fun i u hu => ?_⟩, by rw [hlen]; exact hle⟩
    have hi : i < len := by
      have := (List.getElem?_eq_some_iff.1 hu).1
      rw [hlen] at this; exact this
    have ho : u = F i := by
      simp [hi] at hu
      exact hu.symm
    rw [ho]
    exact hF i hi
end
/-- A step of a script, by its cells and its bytes. -/
structure Op5 where
  kd : Int
  k : Int
  f : Int
  t : Int
  v : Value
  b : List UInt8
instance : Inhabited Op5 := ⟨⟨0, 0, 0, 0, .slice none 0 0, []⟩⟩
def Op5.cs (o : Op5) : List Value := [.int .i64 o.kd, .int .i64 o.k, .int .i64 o.f, .int .i64 o.t, o.v]
def Op5.g (o : Op5) : Value := .agg o.cs.toArray
def i64 (a : Int) : Prop := -9223372036854775808 ≤ a ∧ a ≤ 9223372036854775807
structure Op5.ok (w : World) (o : Op5) : Prop where
  kd : i64 o.kd
  k : i64 o.k
  f : i64 o.f
  t : i64 o.t
  hs : Has w o.v o.b
  lb : o.b.length ≤ 140737488351232
/-- A script in a slice. -/
structure Scr (w : World) (v : Value) (l : List Op5) : Prop where
  li : Li 5 w v (l.map Op5.cs)
  ok : ∀ o ∈ l, o.ok w
theorem Op5.ok.on {w w' : World} {o : Op5} (h : o.ok w) (hb : Below w.heap.size w w') : o.ok w' := ⟨h.kd, h.k, h.f, h.t, h.hs.below hb, h.lb⟩
theorem Scr.on {w w' : World} {v : Value} {l : List Op5} (h : Scr w v l) (hb : Below w.heap.size w w') : Scr w' v l := ⟨h.li.on hb, fun o ho => (h.ok o ho).on hb⟩
theorem len42 (ao : Option Addr) (n c : Nat) (W : World) (ty : TypeId) : (Builtin.len_ #[42] ty #[.slice ao n c]).run Try.prog W = .ok (.int .i64 (n : Int)) W := by go_simp
theorem Scr.len {w : World} {v : Value} {l : List Op5} (h : Scr w v l) (W : World) (ty : TypeId) : (Builtin.len_ #[42] ty #[v]).run Try.prog W = .ok (.int .i64 (l.length : Int)) W := by
  rcases h.li.sl with ⟨rfl, e⟩ | ⟨ad, cap, rfl, _⟩
  · have : l = [] := by simpa using e
    rw [this]
    exact len42 _ _ _ W ty
  · rw [List.length_map]
    exact len42 _ _ _ W ty
theorem idx42 (ad : Addr) (n cap m : Nat) (h : m < n) (W : World) : (Instr.indexAt 42 (.slice (some ad) n cap) (.int .i64 (m : Int))).run Try.prog W = .ok (.pointer (some (ad.add (m * 5)))) W := by
  have hm : (m : Int) < (n : Int) := by omega
  go_simp
theorem i47 (o : Op5) : (Try.prog.info? 47).map (·.size) = some o.cs.length := by show _ = some 5; kernel_rfl
theorem Scr.get {w : World} {v : Value} {l : List Op5} (h : Scr w v l) {i : Nat} {o : Op5} (hs : l[i]? = some o) : ∃ ad, (∀ W, (Instr.indexAt 42 v (.int .i64 (i : Int))).run Try.prog W = .ok (.pointer (some ad)) W) ∧ ∀ W, Scr W v l → (Instr.loadAt 47 (.pointer (some ad))).run Try.prog W = .ok o.g W := by
  have ha : (l.map Op5.cs)[i]? = some o.cs := by rw [List.getElem?_map, hs]; rfl
  obtain ⟨ad, cap, e, _⟩ := h.li.at_ i _ ha
  have hi : i < (l.map Op5.cs).length := (List.getElem?_eq_some_iff.1 ha).1
  refine ⟨ad.add (i * 5), fun W => by rw [e]; exact idx42 ad _ cap i hi W, fun W hW => ?_⟩
  obtain ⟨ad2, cap2, e2, hat⟩ := hW.li.at_ i _ ha
  rw [e] at e2
  cases e2
  exact run_loadA hat Try.underlying47 rfl (i47 o)
section
variable {H : Type} {enc : TypeId × Value → H} {W : World} {base : Nat} {spare : Nat → Bool} {held : Bool} {fuel : Nat} {cs : List Value} {x : DataW H × List MemPlace}
theorem int_of (h : DataW.trod enc Try.prog W base spare held fuel 3 cs = some x) : ∃ n : Int, i64 n ∧ cs = [.int .i64 n] := by
  obtain ⟨z, e, _, hw⟩ := DataW.trod_int Try.underlying3 h
  have hb := bounds_i64 hw
  exact ⟨z, ⟨by omega, by omega⟩, e⟩
theorem op_of (h : DataW.trod enc Try.prog W base spare held fuel 47 cs = some x) (hw : ∀ n ∈ x.1.weights Try.prog 47, n ≤ 140737488351232) : ∃ s : Op5, s.ok W ∧ cs = s.cs := by
  obtain ⟨hl, n, hf⟩ := fld_of Try.underlying47 h
  have h5 : Try.prog.cellsOf 47 = 5 := by kernel_rfl
  rw [h5] at hl
  obtain ⟨y0, t0, m0⟩ := fld_at hf 0 (ft := 3) (off := 0) (sz := 1) rfl rfl rfl (by kernel_rfl)
  obtain ⟨y1, t1, m1⟩ := fld_at hf 1 (ft := 3) (off := 1) (sz := 1) rfl rfl rfl (by kernel_rfl)
  obtain ⟨y2, t2, m2⟩ := fld_at hf 2 (ft := 3) (off := 2) (sz := 1) rfl rfl rfl (by kernel_rfl)
  obtain ⟨y3, t3, m3⟩ := fld_at hf 3 (ft := 3) (off := 3) (sz := 1) rfl rfl rfl (by kernel_rfl)
  obtain ⟨y4, t4, m4⟩ := fld_at hf 4 (ft := 29) (off := 4) (sz := 1) rfl rfl rfl (by kernel_rfl)
  obtain ⟨a, la, e0⟩ := int_of t0
  obtain ⟨b, lb, e1⟩ := int_of t1
  obtain ⟨c, lc, e2⟩ := int_of t2
  obtain ⟨d, ld, e3⟩ := int_of t3
  obtain ⟨v, bs, e4, hh, hbl⟩ := bytes_of t4 (fun n hn => hw n (m4 n hn))
  refine ⟨⟨a, b, c, d, v, bs⟩, ⟨la, lb, lc, ld, hh, hbl⟩, ?_⟩
  match cs, hl with
  | [c0, c1, c2, c3, c4], _ =>
    simp at e0 e1 e2 e3 e4
    simp [Op5.cs, e0, e1, e2, e3, e4]
set_option maxRecDepth 100000 in
theorem script_of (h : DataW.trod enc Try.prog W base spare held fuel 42 cs = some x) (hw : ∀ n ∈ x.1.weights Try.prog 42, n ≤ 140737488351232) : ∃ v l, cs = [v] ∧ Scr W v l ∧ l.length ≤ 140737488351232 := by
  rcases Deep.open_slice Try.underlying42 h with ⟨rfl, _⟩ | ⟨a, len, cap, m, n, D, Pl, rfl, _, hl, hm, hmm, hxx, hx⟩
  · exact ⟨_, [], rfl, ⟨Li.nil 5 W, fun s hs => by cases hs⟩, by decide⟩
  · have hlm : len ≤ m := by rw [hmm]; split <;> omega
    have hc5 : Try.prog.cellsOf 47 = 5 := by kernel_rfl
    have hD : ∀ i, i < len → ∀ k ∈ (D i).weights Try.prog 47, k ≤ 140737488351232 := fun i hi k hk => hw k (by
      rw [hxx]
      simp only [DataW.weights, Try.underlying42]
      refine List.mem_cons_of_mem _ (List.mem_append.2 (.inl ?_))
      exact weights_all (List.mem_map.2 ⟨i, List.mem_range.2 hi, rfl⟩) k hk)
    obtain ⟨F, hF⟩ := Deep.choose_lt (α := Op5) (n := len) (p := fun i s => s.ok W ∧ At W (a.add (i * 5)) s.cs) (fun i hi => by
      obtain ⟨cs', h1, h2⟩ := hx i (by omega)
      rw [hc5] at h1
      obtain ⟨_, hlen, hc⟩ := World.cells?_some h1
      obtain ⟨s, hs, rfl⟩ := op_of h2 (hD i hi)
      refine ⟨s, hs, fun j v hj => ?_⟩
      have hjl : j < 5 := by rw [← hlen]; exact (List.getElem?_eq_some_iff.1 hj).1
      exact (hc j hjl).trans hj)
    have hlen : ((List.range len).map F).length = len := by simp
    have hby : Try.prog.bytesOf 47 = 56 := by kernel_rfl
    have hle : len ≤ 140737488351232 := by
      have h1 := hw ((((List.range len).map D).length + ((List.range (m - len)).map fun j => D (len + j)).length) * Try.prog.bytesOf 47) (by rw [hxx]; simp [DataW.weights, Try.underlying42])
      rw [hby] at h1
      simp only [List.length_map, List.length_range] at h1
      omega
    refine ⟨_, (List.range len).map F, rfl, ⟨⟨.inr ⟨a, cap, by rw [List.length_map, hlen], by rw [List.length_map, hlen]; exact hl⟩, fun y hy => ?_, fun i y hy => ?_⟩, fun s hs => ?_⟩, by rw [hlen]; exact hle⟩
    · obtain ⟨o, _, rfl⟩ := List.mem_map.1 hy
      rfl
    · have hi : i < len := by
        have := (List.getElem?_eq_some_iff.1 hy).1
        rw [List.length_map, hlen] at this; exact this
      have ho : y = (F i).cs := by
        simp [hi] at hy
        exact hy.symm
      exact ⟨a, cap, by rw [List.length_map, hlen], by rw [ho]; exact (hF i hi).2⟩
    · obtain ⟨i, hi, rfl⟩ := List.mem_map.1 hs
      exact (hF i (List.mem_range.1 hi)).1
end
end Go.Proofs.Ytplfelfmkgjijaa
