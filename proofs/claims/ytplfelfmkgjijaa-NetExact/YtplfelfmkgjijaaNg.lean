import Derived.Test.YtplfelfmkgjijaaNf
import Derived.Test.YtplfelfmkgjijaaSo
set_option linter.unusedVariables false
set_option linter.unusedSimpArgs false
namespace Go.Proofs.Ytplfelfmkgjijaa
open Go.RowKit

def cmpN (x y : Int) : Int := if x < y then -1 else if y < x then 1 else 0
set_option maxRecDepth 100000 in
set_option maxHeartbeats 1000000 in
theorem nan_any (x : Int) (w : World) : Calls Try.prog 48 #[.int .i64 x] w fun e w' => e = .returned (.bool false) ∧ w' = w := by
  refine calls_of_args [.int .i64 x] Try.func48 rfl 6 Try.ntmps48 (by show 1 ≤ 6; decide) ?_
  refine EW.seq ?_
  refine EW.region ?_
  first | refine WL.assign rfl rfl rfl ?_
  refine WL.done ?_
  refine EW.on ?_
  refine EW.seq ?_
  refine EW.region ?_
  first | refine WL.move rfl rfl rfl ?_
  first | refine WL.move rfl rfl rfl ?_
  refine WL.bin rfl rfl rfl rfl (int_ne_f rfl _ _ _) ?_
  first | refine WL.assign rfl rfl rfl ?_
  refine WL.done ?_
  refine EW.on ?_
  refine EW.ret ?_
  exact EW.returns Try.results48 rfl ⟨rfl, rfl⟩
set_option maxRecDepth 100000 in
set_option maxHeartbeats 1000000 in
theorem cmp_any (x y : Int) (w : World) : Calls Try.prog 34 #[.int .i64 x, .int .i64 y] w fun e w' => e = .returned (.int .i64 (cmpN x y)) ∧ w' = w := by
  refine calls_of_args [.int .i64 x, .int .i64 y] Try.func34 rfl 20 Try.ntmps34 (by show 2 ≤ 20; decide) ?_
  refine EW.seq ?_
  refine EW.region ?_
  first | refine WL.assign rfl rfl rfl ?_
  refine WL.done ?_
  refine EW.on ?_
  refine EW.seq ?_
  refine EW.region ?_
  first | refine WL.move rfl rfl rfl ?_
  refine WL.call [.int .i64 x] enter48 rfl rfl rfl (nan_any _ _) ?_
  rintro x1 w1 ⟨rfl, hw1⟩
  refine ⟨_, rfl, ?_⟩
  rw [hw1]
  first | refine WL.assign rfl rfl rfl ?_
  refine WL.done ?_
  refine EW.on ?_
  refine EW.seq ?_
  refine EW.region ?_
  first | refine WL.move rfl rfl rfl ?_
  refine WL.call [.int .i64 y] enter48 rfl rfl rfl (nan_any _ _) ?_
  rintro x2 w2 ⟨rfl, hw2⟩
  refine ⟨_, rfl, ?_⟩
  rw [hw2]
  first | refine WL.assign rfl rfl rfl ?_
  refine WL.done ?_
  refine EW.on ?_
  refine EW.seq ?_
  refine EW.seq ?_
  refine EW.region ?_
  first | refine WL.move rfl rfl rfl ?_
  refine WL.done ?_
  refine EW.on ?_
  refine EW.cond_f rfl ?_
  refine EW.skip ?_
  refine EW.on ?_
  refine EW.seq ?_
  refine EW.seq ?_
  refine EW.region ?_
  first | refine WL.move rfl rfl rfl ?_
  refine WL.done ?_
  refine EW.on ?_
  refine EW.cond_f rfl ?_
  refine EW.skip ?_
  refine EW.on ?_
  refine EW.seq ?_
  refine EW.seq ?_
  refine EW.region ?_
  first | refine WL.move rfl rfl rfl ?_
  first | refine WL.move rfl rfl rfl ?_
  refine WL.bin rfl rfl rfl rfl (int_lt_d _ _ _ _ _) ?_
  refine WL.done ?_
  refine EW.on ?_
  refine EW.cond_d rfl (fun h16 => ?_) (fun h16 => ?_)
  · refine EW.seq ?_
    refine EW.region ?_
    first | refine WL.assign rfl rfl rfl ?_
    refine WL.done ?_
    refine EW.on ?_
    refine EW.ret ?_
    refine pr_then ?_
    exact EW.returns Try.results34 rfl ⟨by unfold cmpN; rw [if_pos h16], rfl⟩
  · refine EW.skip ?_
    refine EW.on ?_
    refine EW.seq ?_
    refine EW.seq ?_
    refine EW.region ?_
    first | refine WL.move rfl rfl rfl ?_
    first | refine WL.move rfl rfl rfl ?_
    refine WL.bin rfl rfl rfl rfl (int_gt_d _ _ _ _ _) ?_
    refine WL.done ?_
    refine EW.on ?_
    refine EW.cond_d rfl (fun h19 => ?_) (fun h19 => ?_)
    · refine EW.seq ?_
      refine EW.region ?_
      first | refine WL.assign rfl rfl rfl ?_
      refine WL.done ?_
      refine EW.on ?_
      refine EW.ret ?_
      refine pr_then ?_
      exact EW.returns Try.results34 rfl ⟨by unfold cmpN; rw [if_neg h16, if_pos h19], rfl⟩
    · refine EW.skip ?_
      refine EW.on ?_
      refine EW.seq ?_
      refine EW.region ?_
      first | refine WL.assign rfl rfl rfl ?_
      refine WL.done ?_
      refine EW.on ?_
      refine EW.ret ?_
      exact EW.returns Try.results34 rfl ⟨by unfold cmpN; rw [if_neg h16, if_neg h19], rfl⟩
/-- A world that has come of w by draws and new blocks alone. -/
def Gw (w W : World) : Prop := ∃ q os, W = Go.Sort.grow (w.drewN q) os
theorem Gw.refl (w : World) : Gw w w := ⟨0, #[], by rw [Go.Sort.grow_empty]; rfl⟩
theorem Gw.drew {w W : World} (h : Gw w W) : Gw w { W with drawn := W.drawn + 1 } := by
  obtain ⟨q, os, rfl⟩ := h
  exact ⟨q + 1, os, rfl⟩
theorem Gw.alloc {w W : World} (h : Gw w W) (o : Obj) : Gw w (W.alloc o) := by
  obtain ⟨q, os, rfl⟩ := h
  exact ⟨q, os ++ #[o], by rw [Go.Sort.alloc_eq_grow, Go.Sort.grow_grow]⟩
theorem Gw.below {w W : World} (h : Gw w W) : Below w.heap.size w W := by
  obtain ⟨q, os, rfl⟩ := h
  refine ⟨rfl, rfl, rfl, by rw [Go.Sort.size_grow]; exact Nat.le_add_right _ _, fun k hk => ?_⟩
  show (w.heap ++ os)[k]? = _
  rw [Array.getElem?_append_left hk]
set_option maxRecDepth 100000 in
set_option maxHeartbeats 4000000 in
theorem compare_any (a b : Fl) (w : World) : Calls Try.prog 25 #[a.g, b.g] w fun e w' => e = .returned (.int .i64 (cmpN a.n b.n)) ∧ Gw w w' := by
  obtain ⟨w2, q2, r2, b2, g2, hq2⟩ : ∃ w1 q, (Instr.box 36 a.g).run Try.prog w = .ok (.pointer (some ⟨q, 0, none⟩)) w1 ∧ Blk w1 q a.cs 36 ∧ Gw w w1 ∧ q = w.heap.size := ⟨_, _, run_boxR 36 _ w _ rfl, Blk.new _ _ _, (Gw.refl w).alloc _, rfl⟩
  obtain ⟨w3, q3, r3, b3, g3, hq3⟩ : ∃ w1 q, (Instr.box 36 b.g).run Try.prog w2 = .ok (.pointer (some ⟨q, 0, none⟩)) w1 ∧ Blk w1 q b.cs 36 ∧ (Gw w w1 ∧ Below w2.heap.size w2 w1) ∧ q = w2.heap.size := ⟨_, _, run_boxR 36 _ w2 _ rfl, Blk.new _ _ _, ⟨g2.alloc _, below_new _ _⟩, rfl⟩
  replace b2 := b2.on g3.2
  refine calls_of_args [a.g, b.g] Try.func25 rfl 10 Try.ntmps25 (by show 2 ≤ 10; decide) ?_
  refine EW.seq ?_
  refine EW.region ?_
  refine WL.box rfl rfl rfl r2 ?_
  refine WL.box rfl rfl rfl r3 ?_
  first | refine WL.assign rfl rfl rfl ?_
  refine WL.done ?_
  refine EW.on ?_
  refine EW.seq ?_
  refine EW.region ?_
  refine WL.field rfl rfl rfl (g36_0 q2 _) ?_
  refine WL.load rfl rfl rfl (ldI b2 rfl) ?_
  refine WL.field rfl rfl rfl (g36_0 q3 _) ?_
  refine WL.load rfl rfl rfl (ldI b3 rfl) ?_
  refine WL.call [.int .i64 a.n, .int .i64 b.n] enter34 rfl rfl rfl (cmp_any _ _ _) ?_
  rintro x w4 ⟨rfl, hw4⟩
  refine ⟨_, rfl, ?_⟩
  rw [hw4]
  first | refine WL.assign rfl rfl rfl ?_
  refine WL.done ?_
  refine EW.on ?_
  refine EW.ret ?_
  exact EW.returns Try.results25 rfl ⟨rfl, g3.1⟩
/-- Flights that can be. -/
abbrev OS := { s : Fl // s.sh }
instance : Inhabited OS := ⟨⟨Fl.z, Fl.z_sh⟩⟩
def encS (x : OS) : List Value := x.1.cs
theorem encS_len (x : OS) : (encS x).length = 4 := rfl
theorem encS_one (x : OS) : ∀ v ∈ encS x, v.oneCell' = true := fun v hv => by
  exact Fl.ones x.2 v hv
theorem flatK_flat (d : Array OS) : (Go.Sort.flatK encS 4 d).toList = (d.toList.map encS).flatten := by
  have hs : ∀ x ∈ d.toList.map encS, x.length = 4 := fun x hx => by
    obtain ⟨y, _, rfl⟩ := List.mem_map.1 hx
    exact encS_len y
  apply List.ext_getElem?
  intro t
  rcases Nat.lt_or_ge t (d.size * 4) with ht | ht
  · have hd : t / 4 < d.size := by omega
    have h1 : (Go.Sort.flatK encS 4 d).toList[t]? = some ((encS d[t / 4]!)[t % 4]!) := by
      rw [Array.getElem?_toList, Array.getElem?_eq_getElem (by rw [Go.Sort.size_flatK]; exact ht)]
      have := Go.Sort.get_flatK encS 4 d t ht
      rw [getElem!_pos _ t (by rw [Go.Sort.size_flatK]; exact ht)] at this
      rw [this]
    have h2 : (d.toList.map encS)[t / 4]? = some (encS d[t / 4]!) := by
      rw [List.getElem?_map, Array.getElem?_toList, Array.getElem?_eq_getElem hd, getElem!_pos d (t / 4) hd]; rfl
    have h3 := flat_at hs h2 (Nat.mod_lt t (by decide : 4 > 0))
    rw [show t / 4 * 4 + t % 4 = t by omega] at h3
    rw [h1, h3, List.getElem?_eq_getElem (by rw [encS_len]; omega), getElem!_pos (encS d[t / 4]!) (t % 4) (by rw [encS_len]; omega)]
  · rw [List.getElem?_eq_none (by rw [Array.length_toList, Go.Sort.size_flatK]; exact ht), List.getElem?_eq_none (by rw [flat_len hs, List.length_map, Array.length_toList]; exact ht)]
theorem flatS (ds : List OS) : ds.map encS = fcs (ds.map (·.1)) := by unfold fcs; rw [List.map_map]; rfl
def Lt (a b : Fl) : Prop := a.n < b.n
theorem cmpN_neg (x y : Int) : cmpN x y < 0 ↔ x < y := by unfold cmpN; split <;> (try split) <;> omega
def cfS (x y : OS) : Int := cmpN x.1.n y.1.n
theorem ltS (x y : OS) : Go.Proofs.ltOf cfS x y = true ↔ Lt x.1 y.1 := by
  unfold Go.Proofs.ltOf cfS
  rw [decide_eq_true_iff, cmpN_neg]; exact Iff.rfl
theorem swoS : Go.Sort.SWO (Go.Proofs.ltOf cfS) where
  irrefl x := by
    rw [Bool.eq_false_iff, ne_eq, ltS]; unfold Lt; omega
  trans x y z h1 h2 := by
    rw [ltS] at *; unfold Lt at *; omega
  ntrans x y z h1 h2 := by
    rw [Bool.eq_false_iff, ne_eq, ltS] at *; unfold Lt at *; omega
theorem attach_val {l : List Fl} (h : ∀ s ∈ l, s.sh) : ∃ ds : List OS, ds.map (·.1) = l ∧ ds.length = l.length := by
  refine ⟨l.attachWith Fl.sh h, ?_, by simp⟩
  simp
theorem put_take (F cur : Array Value) (h : F.size ≤ cur.size) : (Go.Sort.putCells id 0 F cur).toList.take F.size = F.toList := by
  apply List.ext_getElem?
  intro t
  rw [List.getElem?_take]
  split
  · rename_i ht
    unfold Go.Sort.putCells
    rw [Array.getElem?_toList, Array.getElem?_mapIdx, Array.getElem?_eq_getElem (by omega)]
    simp only [Option.map_some, Nat.zero_le, Nat.zero_add, true_and, ht, if_true, Nat.sub_zero, id]
    rw [getElem!_pos F t ht, Array.getElem?_toList, Array.getElem?_eq_getElem ht]
  · rw [List.getElem?_eq_none (by rw [Array.length_toList]; omega)]
/-- No later place is below an earlier one. -/
def Asc (l : List Fl) : Prop := l.Pairwise fun a b => ¬ Lt b a
set_option maxHeartbeats 1000000 in
theorem sort_any {w : World} {g cap : Nat} {l : List Fl} (h : Fo w (.slice (some ⟨g, 0, none⟩) l.length cap) l) (hl : l.length ≤ 100000) : Calls Try.prog 24 #[.slice (some ⟨g, 0, none⟩) l.length cap, .func (.func 25) #[] #[]] w fun e w' => e = .returned (.tuple #[]) ∧ ∃ l', l'.Perm l ∧ Asc l' ∧ Fo w' (.slice (some ⟨g, 0, none⟩) l.length cap) l' ∧ Fx (fun b => b = g) w w' := by
  obtain ⟨ds, hds, hdl⟩ := attach_val h.sh
  obtain ⟨hx0, ⟨e0, _⟩ | ⟨g', cp, cur, e0, hg, hh2, hnc, hc, hs2, htk⟩⟩ := h.ow.row
  · cases e0
  · rw [fcs_len] at e0
    cases e0
    have hF : (Go.Sort.flatK encS 4 ds.toArray).toList = (fcs l).flatten := by rw [flatK_flat, List.toList_toArray, flatS, hds]
    have hsz : (Go.Sort.flatK encS 4 ds.toArray).size = l.length * 4 := by rw [Go.Sort.size_flatK, List.size_toArray, hdl]
    rw [fcs_len] at htk hnc
    have hcur : l.length * 4 ≤ cur.size := by rw [hs2]; exact Nat.mul_le_mul_right _ hnc
    have hH : Go.Sort.HoldsK encS 4 w g 0 ds.toArray := fun j hj => by
      rw [hsz] at hj
      refine ⟨?_, frozen_of_row w g _ cur 36 hh2⟩
      rw [Nat.zero_add, cell_of_row _ _ _ _ 36 (0, 0) hh2, ← Array.getElem?_toList]
      have h1 : (Go.Sort.flatK encS 4 ds.toArray).toList[j]? = cur.toList[j]? := by rw [hF, ← htk, List.getElem?_take, if_pos hj]
      rw [← h1, Array.getElem?_toList, Array.getElem?_eq_getElem (by rw [hsz]; exact hj), getElem!_pos _ j (by rw [hsz]; exact hj)]
      rfl
    have hblk : g < w.heap.size := by
      rcases Nat.lt_or_ge g w.heap.size with hl | hl
      · exact hl
      · rw [Array.getElem?_eq_none hl] at hh2; cases hh2
    have hcon := AnyQ.slices_SortFunc sortFl 4 Try.isAgg36 Try.sizeOf36 encS encS_len encS_one cfS swoS 25 #[] g 0 cap ds.toArray w enter25 (fun m os dk _ x y => compare_any x.1 y.1 _) hH hblk (by rw [List.size_toArray]; omega)
    rw [List.size_toArray, hdl] at hcon
    change Calls Try.prog 24 _ _ _ at hcon
    refine hcon.mono fun e w' ⟨he, d', n, os, hp, hso, hw'⟩ => ⟨he, d'.toList.map (·.1), ?_, ?_, ?_, ?_⟩
    · have h1 := hp.2.2
      have hd' : d'.size = l.length := hp.1.trans (List.size_toArray.trans hdl)
      have e1 : d'.extract 0 l.length = d' := by
        rw [← hd', Array.extract_size]
      have e2 : ds.toArray.extract 0 l.length = ds.toArray := by
        have : ds.toArray.size = l.length := List.size_toArray.trans hdl
        rw [← this, Array.extract_size]
      rw [e1, e2, List.toList_toArray] at h1
      rw [← hds]
      exact h1.map _
    · unfold Asc
      rw [List.pairwise_map, List.pairwise_iff_getElem]
      intro i j hi hj hij
      rw [Array.length_toList] at hi hj
      have h1 := hso i j (Nat.zero_le _) hij (by have hd' : d'.size = l.length := hp.1.trans (List.size_toArray.trans hdl); omega)
      rw [Bool.eq_false_iff, ne_eq, ltS, getElem!_pos d' j hj, getElem!_pos d' i hi] at h1
      simpa using h1
    · have hsz' : d'.size = l.length := hp.1.trans (List.size_toArray.trans hdl)
      have hll : (d'.toList.map (·.1)).length = l.length := by rw [List.length_map, Array.length_toList, hsz']
      have hF' : (Go.Sort.flatK encS 4 d').toList = (fcs (d'.toList.map (·.1))).flatten := by rw [flatK_flat, flatS]
      have hok : ∀ s ∈ d'.toList.map (·.1), s.sh := fun s hs => by
        obtain ⟨x, _, rfl⟩ := List.mem_map.1 hs
        exact x.2
      have hFs : (Go.Sort.flatK encS 4 d').size = l.length * 4 := by rw [Go.Sort.size_flatK, hsz']
      refine ⟨⟨⟨flat_len (fcs_sz _), .inr ⟨g, cap, Go.Sort.putCells id 0 (Go.Sort.flatK encS 4 d') cur, by rw [fcs_len, hll], Nat.zero_le _, ?_, by rw [fcs_len, hll]; exact hnc, hc, ?_, ?_⟩⟩, fcs_sz _⟩, hok⟩
      · rw [hw']
        show ((Go.Sort.mapBlock (Go.Sort.ahead w n) g (Go.Sort.putCells id 0 (Go.Sort.flatK encS 4 d'))).heap ++ os)[g]? = _
        rw [Array.getElem?_append_left (by simp [Go.Sort.mapBlock, Go.Sort.ahead]; exact hblk)]
        show (w.heap.modify g _)[g]? = _
        rw [Array.getElem?_modify, if_pos rfl, hh2]
        rfl
      · unfold Go.Sort.putCells
        rw [Array.size_mapIdx, hs2]
      · rw [fcs_len, hll, ← hFs, put_take _ _ (by rw [hFs]; exact hcur), hF']
    · rw [hw']
      refine ⟨rfl, rfl, rfl, ?_, fun i hi hn => ?_⟩
      · show w.heap.size ≤ ((w.heap.modify g _) ++ os).size
        simp
      · show ((w.heap.modify g _) ++ os)[i]? = _
        rw [Array.getElem?_append_left (by simpa using hi), Array.getElem?_modify, if_neg (fun e => hn e.symm)]
end Go.Proofs.Ytplfelfmkgjijaa
