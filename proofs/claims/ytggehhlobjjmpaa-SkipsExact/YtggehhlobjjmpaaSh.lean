import Derived.Test.YtggehhlobjjmpaaSg
import Derived.Shelf.SlMaps.Clone
set_option linter.unusedVariables false
set_option linter.unusedSimpArgs false
namespace Go.Proofs.Ytggehhlobjjmpaa
open Go.RowKit

def cloneM_ren : Go.Shelf.Ren := ⟨fun | 5 => 21 | 7 => 32 | n => n, fun | 23 => 57 | 25 => 63 | 3 => 29 | 4 => 4 | 20 => 20 | n => n, fun | n => n⟩
theorem cloneM : Go.Proofs.SlLaysW.n5 Try.prog cloneM_ren := {
  mixed := by kernel_rfl,
  f5 := ⟨Try.f21.name, by decide, Try.func21.trans (congrArg some (by kernel_rfl))⟩,
  f7 := Try.func32.trans (congrArg some (by kernel_rfl)),
  t4 := Try.underlying4,
  a4 := Try.isAgg4,
  z4 := Try.sizeOf4,
  v4 := Try.zeroValue4,
  t20 := Try.underlying20,
  a20 := Try.isAgg20,
  z20 := Try.sizeOf20,
  v20 := Try.zeroValue20,
  t23 := Try.underlying57,
  a23 := Try.isAgg57,
  z23 := Try.sizeOf57,
  v23 := Try.zeroValue57 }

/-- Skipped keys that can be. -/
abbrev OS := { s : Sk // s.ok }
instance : Inhabited OS := ⟨⟨Sk.z, Sk.z_ok⟩⟩
def encS (x : OS) : List Value := x.1.cs
theorem encS_len (x : OS) : (encS x).length = 34 := Sk.len x.2
theorem encS_one (x : OS) : ∀ v ∈ encS x, v.oneCell' = true := fun v hv => by
  have := x.1.one
  rw [List.all_toArray, List.all_eq_true] at this
  exact this v hv
theorem flatK_flat (d : Array OS) : (Go.Sort.flatK encS 34 d).toList = (d.toList.map encS).flatten := by
  have hs : ∀ x ∈ d.toList.map encS, x.length = 34 := fun x hx => by
    obtain ⟨y, _, rfl⟩ := List.mem_map.1 hx
    exact encS_len y
  apply List.ext_getElem?
  intro t
  rcases Nat.lt_or_ge t (d.size * 34) with ht | ht
  · have hd : t / 34 < d.size := by omega
    have h1 : (Go.Sort.flatK encS 34 d).toList[t]? = some ((encS d[t / 34]!)[t % 34]!) := by
      rw [Array.getElem?_toList, Array.getElem?_eq_getElem (by rw [Go.Sort.size_flatK]; exact ht)]
      have := Go.Sort.get_flatK encS 34 d t ht
      rw [getElem!_pos _ t (by rw [Go.Sort.size_flatK]; exact ht)] at this
      rw [this]
    have h2 : (d.toList.map encS)[t / 34]? = some (encS d[t / 34]!) := by
      rw [List.getElem?_map, Array.getElem?_toList, Array.getElem?_eq_getElem hd, getElem!_pos d (t / 34) hd]; rfl
    have h3 := flat_at hs h2 (Nat.mod_lt t (by decide : 34 > 0))
    rw [show t / 34 * 34 + t % 34 = t by omega] at h3
    rw [h1, h3, List.getElem?_eq_getElem (by rw [encS_len]; omega), getElem!_pos (encS d[t / 34]!) (t % 34) (by rw [encS_len]; omega)]
  · rw [List.getElem?_eq_none (by rw [Array.length_toList, Go.Sort.size_flatK]; exact ht), List.getElem?_eq_none (by rw [flat_len hs, List.length_map, Array.length_toList]; exact ht)]
theorem flatS (ds : List OS) : ds.map encS = scs (ds.map (·.1)) := by unfold scs; rw [List.map_map]; rfl
def Lt (a b : Sk) : Prop := a.t < b.t ∨ (a.t = b.t ∧ a.n < b.n)
theorem cmpN_neg (x y : Nat) : cmpN x y < 0 ↔ x < y := by unfold cmpN; split <;> (try split) <;> omega
theorem cmpN_zero (x y : Nat) : cmpN x y = 0 ↔ x = y := by unfold cmpN; split <;> (try split) <;> omega
theorem cmpS_neg (a b : Sk) : cmpS a b < 0 ↔ Lt a b := by
  unfold cmpS Lt
  by_cases h : cmpN a.t b.t = 0
  · rw [if_pos h, cmpN_neg]
    rw [cmpN_zero] at h
    omega
  · rw [if_neg h, cmpN_neg]
    rw [cmpN_zero] at h
    omega
def cfS (x y : OS) : Int := cmpS x.1 y.1
theorem ltS (x y : OS) : Go.Proofs.ltOf cfS x y = true ↔ Lt x.1 y.1 := by
  unfold Go.Proofs.ltOf cfS
  rw [decide_eq_true_iff, cmpS_neg]
theorem swoS : Go.Sort.SWO (Go.Proofs.ltOf cfS) where
  irrefl x := by
    rw [Bool.eq_false_iff, ne_eq, ltS]; unfold Lt; omega
  trans x y z h1 h2 := by
    rw [ltS] at *; unfold Lt at *; omega
  ntrans x y z h1 h2 := by
    rw [Bool.eq_false_iff, ne_eq, ltS] at *; unfold Lt at *; omega
theorem attach_val {l : List Sk} (h : ∀ s ∈ l, s.ok) : ∃ ds : List OS, ds.map (·.1) = l ∧ ds.length = l.length := by
  refine ⟨l.attachWith Sk.ok h, ?_, by simp⟩
  simp
theorem put_take (F cur : Array Value) (h : F.size ≤ cur.size) : (Go.Sort.putCells id 0 F cur).toList.take F.size = F.toList := by
  apply List.ext_getElem?
  intro t
  rw [List.getElem?_take]
  split
  · rename_i ht
    unfold Go.Sort.putCells
    rw [Array.getElem?_toList, Array.getElem?_mapIdx, Array.getElem?_eq_getElem (by omega)]
    simp only [Option.map_some, Nat.zero_le, Nat.zero_add, true_and, ht, if_true, Nat.sub_zero, id]
    rw [getElem!_pos F t ht, Array.getElem?_toList, Array.getElem?_eq_getElem ht]
  · rw [List.getElem?_eq_none (by rw [Array.length_toList]; omega)]
/-- No later place is below an earlier one. -/
def Asc (l : List Sk) : Prop := l.Pairwise fun a b => ¬ Lt b a
set_option maxHeartbeats 1000000 in
theorem sort_any {w : World} {g cap : Nat} {l : List Sk} (h : So w (.slice (some ⟨g, 0, none⟩) l.length cap) l) (hl : l.length ≤ 1000) : Calls Try.prog 19 #[.slice (some ⟨g, 0, none⟩) l.length cap, .func (.func 20) #[] #[]] w fun e w' => e = .returned (.tuple #[]) ∧ ∃ l', l'.Perm l ∧ Asc l' ∧ So w' (.slice (some ⟨g, 0, none⟩) l.length cap) l' ∧ Fx (fun b => b = g) w w' := by
  obtain ⟨ds, hds, hdl⟩ := attach_val h.ok
  obtain ⟨hx0, ⟨e0, _⟩ | ⟨g', cp, cur, e0, hg, hh2, hnc, hc, hs2, htk⟩⟩ := h.ow.row
  · cases e0
  · rw [scs_len] at e0
    cases e0
    have hF : (Go.Sort.flatK encS 34 ds.toArray).toList = (scs l).flatten := by rw [flatK_flat, List.toList_toArray, flatS, hds]
    have hsz : (Go.Sort.flatK encS 34 ds.toArray).size = l.length * 34 := by rw [Go.Sort.size_flatK, List.size_toArray, hdl]
    rw [scs_len] at htk hnc
    have hcur : l.length * 34 ≤ cur.size := by rw [hs2]; exact Nat.mul_le_mul_right _ hnc
    have hH : Go.Sort.HoldsK encS 34 w g 0 ds.toArray := fun j hj => by
      rw [hsz] at hj
      refine ⟨?_, frozen_of_row w g _ cur 39 hh2⟩
      rw [Nat.zero_add, cell_of_row _ _ _ _ 39 (0, 0) hh2, ← Array.getElem?_toList]
      have h1 : (Go.Sort.flatK encS 34 ds.toArray).toList[j]? = cur.toList[j]? := by rw [hF, ← htk, List.getElem?_take, if_pos hj]
      rw [← h1, Array.getElem?_toList, Array.getElem?_eq_getElem (by rw [hsz]; exact hj), getElem!_pos _ j (by rw [hsz]; exact hj)]
      rfl
    have hblk : g < w.heap.size := by
      rcases Nat.lt_or_ge g w.heap.size with hl | hl
      · exact hl
      · rw [Array.getElem?_eq_none hl] at hh2; cases hh2
    have hcon := AnyQ.slices_SortFunc sortSk 34 Try.isAgg39 Try.sizeOf39 encS encS_len encS_one cfS swoS 20 #[] g 0 cap ds.toArray w enter20 (fun m os dk _ x y => compare_any x.1 y.1 _) hH hblk (by rw [List.size_toArray]; omega)
    rw [List.size_toArray, hdl] at hcon
    change Calls Try.prog 19 _ _ _ at hcon
    refine hcon.mono fun e w' ⟨he, d', n, os, hp, hso, hw'⟩ => ⟨he, d'.toList.map (·.1), ?_, ?_, ?_, ?_⟩
    · have h1 := hp.2.2
      have hd' : d'.size = l.length := hp.1.trans (List.size_toArray.trans hdl)
      have e1 : d'.extract 0 l.length = d' := by
        rw [← hd', Array.extract_size]
      have e2 : ds.toArray.extract 0 l.length = ds.toArray := by
        have : ds.toArray.size = l.length := List.size_toArray.trans hdl
        rw [← this, Array.extract_size]
      rw [e1, e2, List.toList_toArray] at h1
      rw [← hds]
      exact h1.map _
    · unfold Asc
      rw [List.pairwise_map, List.pairwise_iff_getElem]
      intro i j hi hj hij
      rw [Array.length_toList] at hi hj
      have h1 := hso i j (Nat.zero_le _) hij (by have hd' : d'.size = l.length := hp.1.trans (List.size_toArray.trans hdl); omega)
      rw [Bool.eq_false_iff, ne_eq, ltS, getElem!_pos d' j hj, getElem!_pos d' i hi] at h1
      simpa using h1
    · have hsz' : d'.size = l.length := hp.1.trans (List.size_toArray.trans hdl)
      have hll : (d'.toList.map (·.1)).length = l.length := by rw [List.length_map, Array.length_toList, hsz']
      have hF' : (Go.Sort.flatK encS 34 d').toList = (scs (d'.toList.map (·.1))).flatten := by rw [flatK_flat, flatS]
      have hok : ∀ s ∈ d'.toList.map (·.1), s.ok := fun s hs => by
        obtain ⟨x, _, rfl⟩ := List.mem_map.1 hs
        exact x.2
      have hFs : (Go.Sort.flatK encS 34 d').size = l.length * 34 := by rw [Go.Sort.size_flatK, hsz']
      refine ⟨⟨⟨flat_len (scs_sz hok), .inr ⟨g, cap, Go.Sort.putCells id 0 (Go.Sort.flatK encS 34 d') cur, by rw [scs_len, hll], Nat.zero_le _, ?_, by rw [scs_len, hll]; exact hnc, hc, ?_, ?_⟩⟩, scs_sz hok⟩, hok⟩
      · rw [hw']
        show ((Go.Sort.mapBlock (Go.Sort.ahead w n) g (Go.Sort.putCells id 0 (Go.Sort.flatK encS 34 d'))).heap ++ os)[g]? = _
        rw [Array.getElem?_append_left (by simp [Go.Sort.mapBlock, Go.Sort.ahead]; exact hblk)]
        show (w.heap.modify g _)[g]? = _
        rw [Array.getElem?_modify, if_pos rfl, hh2]
        rfl
      · unfold Go.Sort.putCells
        rw [Array.size_mapIdx, hs2]
      · rw [scs_len, hll, ← hFs, put_take _ _ (by rw [hFs]; exact hcur), hF']
    · rw [hw']
      refine ⟨rfl, rfl, rfl, ?_, fun i hi hn => ?_⟩
      · show w.heap.size ≤ ((w.heap.modify g _) ++ os).size
        simp
      · show ((w.heap.modify g _) ++ os)[i]? = _
        rw [Array.getElem?_append_left (by simpa using hi), Array.getElem?_modify, if_neg (fun e => hn e.symm)]
theorem clone_any {w : World} {r : Nat} {E : List Me} {c : Nat} (h : Mp w r E c) : Calls Try.prog 21 #[.map (some r)] w fun e w' => e = .returned (.map (some w.heap.size)) ∧ Mp w' w.heap.size E c ∧ Below w.heap.size w w' := by
  have hcon := AnyW.maps_Clone cloneM r _ c w h.hp
  change Calls Try.prog 21 _ _ _ at hcon
  refine hcon.mono fun e w' ⟨h1, h2⟩ => ⟨h1, ?_, ?_⟩
  · rw [h2]
    exact ⟨heap_alloc_new w _, h.ok, h.nd, h.bn, h.lt⟩
  · rw [h2]; exact below_new _ _
end Go.Proofs.Ytggehhlobjjmpaa
