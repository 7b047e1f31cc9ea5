import Derived.Test.YtggehhlobjjmpaaSh
set_option linter.unusedVariables false
set_option linter.unusedSimpArgs false
namespace Go.Proofs.Ytggehhlobjjmpaa
open Go.RowKit

theorem ext_1 (a : Value) (W : World) : (Instr.extract (.tuple #[a]) 0).run Try.prog W = .ok a W := by go_simp
theorem ext_3 (a b c : Value) (W : World) : (Instr.extract (.tuple #[a, b, c]) 0).run Try.prog W = .ok a W := by go_simp
theorem rng57 {w : World} {r : Nat} {E : List Me} {c : Nat} (h : Mp w r E c) : ∃ w' it, (Instr.range 57 (.map (some r))).run Try.prog w = .ok (.pointer (some ⟨it, 0, none⟩)) w' ∧ w'.heap[it]? = some (.mapIter (some r) c #[] c) ∧ Below w.heap.size w w' ∧ it = w.heap.size := by
  have hg := getMap h.hp
  refine ⟨w.alloc (.mapIter (some r) c #[] c), w.heap.size, ?_, heap_alloc_new w _, below_new _ _, rfl⟩
  simp only [Instr.range, Sem.run_bind, run_underlying Try.underlying57, Result.andThen_ok, hg, Sem.run_pure]
  rfl
theorem setB {w w1 : World} {it : Nat} {o o' : Obj} (h : w.heap[it]? = some o') (hw : w1 = w ∨ w1 = w.drew) : (Go.ChangeMaps.setBlock w1 it o).heap[it]? = some o ∧ Fx (fun k => k = it) w (Go.ChangeMaps.setBlock w1 it o) := by
  have hi : it < w.heap.size := by
    rcases Nat.lt_or_ge it w.heap.size with hl | hl
    · exact hl
    · rw [Array.getElem?_eq_none hl] at h; cases h
  have e : w1.heap = w.heap ∧ w1.os = w.os ∧ w1.tape = w.tape ∧ w1.output = w.output := by rcases hw with rfl | rfl <;> exact ⟨rfl, rfl, rfl, rfl⟩
  refine ⟨?_, ⟨e.2.1, e.2.2.1, e.2.2.2, ?_, fun k hk hn => ?_⟩⟩
  · show (w1.heap.setIfInBounds it o)[it]? = _
    rw [e.1]; simp [hi]
  · show w.heap.size ≤ (w1.heap.setIfInBounds it o).size
    rw [e.1]; simp
  · show (w1.heap.setIfInBounds it o)[k]? = _
    rw [e.1, Array.getElem?_setIfInBounds, if_neg (fun e => hn e.symm)]
theorem new63 (w : World) (t n : Nat) : ∃ q w1, (Instr.alloc 63 true (.tuple #[])).run Try.prog w = .ok (.pointer (some ⟨q, 0, none⟩)) w1 ∧ Blk w1 q [u32v 0, u32v 0] 63 ∧ Below w.heap.size w w1 ∧ q = w.heap.size :=
  ⟨_, _, run_newR 63 [u32v 0, u32v 0] (fun w => (zero_of_info (show (Try.prog.info? 63).map (fun i => (i.zero, i.size)) = some (some (.agg [u32v 0, u32v 0].toArray), 2) by kernel_rfl)).1 w) w _ rfl, Blk.new _ _ _, below_new _ _, rfl⟩
theorem st63 {w : World} {q : Nat} {a b : Value} (hb : Blk w q [a, b] 63) (t n : Nat) : ∃ w', (Instr.storeAt 63 (.pointer (some ⟨q, 0, none⟩)) (plV t n)).run Try.prog w = .ok () w' ∧ Blk w' q [u32v t, u32v n] 63 ∧ Fx (fun k => k = q) w w' := by
  obtain ⟨w', r1, r2, r3⟩ := hb.stA (ty := 63) (vs := [u32v t, u32v n]) (o := 0) (a := []) (m := [a, b]) (b := []) (by show _ = some 2; kernel_rfl) (by simp [u32v, Value.oneCell']) rfl rfl rfl
  exact ⟨w', r1, by simpa using r2, r3⟩
theorem g63_0 (q : Nat) (W : World) : (Instr.fieldAt 63 (.pointer (some ⟨q, 0, none⟩)) 0).run Try.prog W = .ok (.pointer (some ⟨q, 0, none⟩)) W := by go_simp
theorem g63_1 (q : Nat) (W : World) : (Instr.fieldAt 63 (.pointer (some ⟨q, 0, none⟩)) 1).run Try.prog W = .ok (.pointer (some ⟨q, 1, none⟩)) W := by go_simp
def liE (p it : Nat) (x : Value × List Me) : List (Nat × Value) := [(0, .pointer (some ⟨p, 0, none⟩)), (3, x.1), (16, .pointer (some ⟨it, 0, none⟩))]
structure LiR (w : World) (r it : Nat) (E : List Me) (c : Nat) (x : Value × List Me) (W : World) : Prop where
  so : So W x.1 (x.2.map Me.sk)
  sh : ∃ g cap, x.1 = .slice (some ⟨g, 0, none⟩) x.2.length cap
  itr : W.heap[it]? = some (.mapIter (some r) c (x.2.map Me.b).toArray c)
  sub : ∀ m ∈ x.2, m ∈ E
  nd : (x.2.map Me.b).Nodup
  ow : ∀ b, x.1.ownBlock = some b → w.heap.size ≤ b ∧ b ≠ it
  be : Below w.heap.size w W
theorem nodup_inj : ∀ {E : List Me}, (E.map Me.b).Nodup → ∀ {x y : Me}, x ∈ E → y ∈ E → x.b = y.b → x = y
  | [], _, x, y, hx, _, _ => by cases hx
  | a :: r, h, x, y, hx, hy, hb => by
    rw [List.map_cons, List.nodup_cons] at h
    rcases List.mem_cons.1 hx with ex | hx'
    · rcases List.mem_cons.1 hy with ey | hy'
      · rw [ex, ey]
      · exact absurd (List.mem_map.2 ⟨y, hy', by rw [← hb, ex]⟩) h.1
    · rcases List.mem_cons.1 hy with ey | hy'
      · exact absurd (List.mem_map.2 ⟨x, hx', by rw [hb, ey]⟩) h.1
      · exact nodup_inj h.2 hx' hy' hb
theorem nodup_of {D : List Me} (h : (D.map Me.b).Nodup) : D.Nodup := List.Pairwise.of_map Me.b (fun a b hne e => hne (congrArg Me.b e)) h
theorem len_sub : ∀ {D E : List Me}, D.Nodup → (∀ m ∈ D, m ∈ E) → D.length ≤ E.length
  | [], E, _, _ => Nat.zero_le _
  | d :: D, E, hn, hs => by
    obtain ⟨a, b, rfl⟩ := List.append_of_mem (hs d (by simp))
    rw [List.nodup_cons] at hn
    have := len_sub (D := D) (E := a ++ b) hn.2 (fun m hm => by
      have h1 := hs m (by simp [hm])
      rcases List.mem_append.1 h1 with h | h
      · exact List.mem_append.2 (.inl h)
      · rcases List.mem_cons.1 h with e | h
        · rw [e] at hm; exact absurd hm hn.1
        · exact List.mem_append.2 (.inr h))
    simp only [List.length_append, List.length_cons] at this ⊢
    omega
theorem len_le {E D : List Me} (hD : (D.map Me.b).Nodup) (hs : ∀ m ∈ D, m ∈ E) : D.length ≤ E.length := len_sub (nodup_of hD) hs
/-- What was handed out once in every way is all there is. -/
theorem sub_perm {E D : List Me} (hE : (E.map Me.b).Nodup) (hD : (D.map Me.b).Nodup) (hs : ∀ m ∈ D, m ∈ E) (hall : ∀ m ∈ E, m.b ∈ D.map Me.b) : D.Perm E := by
  refine (List.perm_ext_iff_of_nodup ?_ ?_).2 fun m => ⟨hs m, fun hm => ?_⟩
  · exact nodup_of hD
  · exact nodup_of hE
  · obtain ⟨x, hx, hb⟩ := List.mem_map.1 (hall m hm)
    have := hs x hx
    rwa [← nodup_inj hE this hm hb]
set_option maxRecDepth 100000 in
set_option maxHeartbeats 4000000 in
theorem list_any {w : World} {p r most : Nat} {E : List Me} {c : Nat} (h : Tb w p r most E c) (hE : E.length ≤ 1000) : Calls Try.prog 11 #[.pointer (some ⟨p, 0, none⟩)] w fun e w' => ∃ v l, e = .returned v ∧ l.Perm (E.map Me.sk) ∧ Asc l ∧ So w' v l ∧ (∀ b, v.ownBlock = some b → w.heap.size ≤ b) ∧ Below w.heap.size w w' := by
  obtain ⟨v1, w1, r1, so1, l1, c1', hv1⟩ := mkS w E.length hE
  have tb1 := h.on l1
  obtain ⟨w2, it, r2, i2, l2, hit⟩ := rng57 tb1.mp
  refine calls_of_args [.pointer (some ⟨p, 0, none⟩)] Try.func11 rfl 34 Try.ntmps11 (by show 1 ≤ 34; decide) ?_
  refine EW.seq ?_
  refine EW.region ?_
  first | refine WL.assign rfl rfl rfl ?_
  refine WL.done ?_
  refine EW.on ?_
  refine EW.seq ?_
  refine EW.region ?_
  first | refine WL.move rfl rfl rfl ?_
  first | refine WL.nilc rfl rfl rfl ?_
  refine WL.field rfl rfl rfl (g59_1 p _) ?_
  refine WL.load rfl rfl rfl (ld57 h) ?_
  refine WL.len rfl rfl rfl (len57 h.mp _) ?_
  refine WL.mks rfl rfl rfl rfl r1 ?_
  first | refine WL.assign rfl rfl rfl ?_
  refine WL.done ?_
  refine EW.on ?_
  refine EW.seq ?_
  refine EW.seq ?_
  refine EW.region ?_
  first | refine WL.move rfl rfl rfl ?_
  first | refine WL.nilc rfl rfl rfl ?_
  refine WL.field rfl rfl rfl (g59_1 p _) ?_
  refine WL.load rfl rfl rfl (ld57 tb1) ?_
  refine WL.rng rfl rfl rfl r2 ?_
  refine WL.done ?_
  refine EW.on ?_
  refine EW.block ?_
  refine EW.loop (liE p it) (LiR w r it E c) (fun x => E.length - x.2.length) (v1, []) [0, 3, 16] rfl ⟨so1.on l2, ⟨_, _, hv1⟩, i2, fun m hm => (by cases hm), List.nodup_nil, fun b hb => (by rw [hv1] at hb; have hb' : w.heap.size = b := (by simpa [Value.ownBlock] using hb); have := so1.ow.lt (b := b) (by rw [hv1, ← hb']; rfl); omega), bt l1 l2⟩ ?_
  rintro x wi R
  show EW _ _ _ _ [(0, .pointer (some ⟨p, 0, none⟩)), (3, x.1), (16, .pointer (some ⟨it, 0, none⟩))] _
  refine EW.seq ?_
  have tbi := h.on R.be
  have hib := R.be.size
  rcases run_next_at (P := Try.prog) wi 0 it r c c _ _ c R.itr tbi.mp.hp (fun x hx => by
    obtain ⟨m, hm, rfl⟩ := List.mem_map.1 (by simpa using hx)
    exact tbi.mp.lt m hm) (Nat.le_refl _) with ⟨h0, rn⟩ | ⟨ee, hee, w3, hw3, rn⟩
  · refine EW.region ?_
    refine WL.nxt rfl rfl rfl rn ?_
    refine WL.extract rfl rfl rfl (ext_1 _ _) ?_
    refine WL.done ?_
    refine EW.on ?_
    refine EW.seq ?_
    refine EW.cond_f rfl ?_
    refine EW.exit ?_
    refine px_then ?_
    refine px_then ?_
    refine px_block ?_
    refine EW.on ?_
    refine EW.seq ?_
    obtain ⟨g, cap, hg⟩ := R.sh
    have hsoX : So wi (.slice (some ⟨g, 0, none⟩) (x.2.map Me.sk).length cap) (x.2.map Me.sk) := by
      have := R.so
      rw [hg] at this
      simpa using this
    have hsort := sort_any hsoX (by have := len_le R.nd R.sub; simp only [List.length_map]; omega)
    rw [List.length_map, ← hg] at hsort
    have hall : ∀ m ∈ E, m.b ∈ x.2.map Me.b := fun m hm => by
      refine Classical.byContradiction fun hn => ?_
      have hmem : m.e ∈ leftOf (E.map Me.e).toArray (x.2.map Me.b).toArray := by
        unfold leftOf
        rw [Array.mem_filter]
        refine ⟨by simpa using ⟨m, hm, rfl⟩, ?_⟩
        have : (x.2.map Me.b).toArray.contains m.e.born = false := by
          rw [List.contains_toArray, Bool.eq_false_iff, ne_eq, List.contains_iff_mem]
          exact hn
        rw [this]; rfl
      rw [Array.eq_empty_of_size_eq_zero h0] at hmem
      simp at hmem
    have hperm := sub_perm h.mp.bn R.nd R.sub hall
    refine EW.region ?_
    first | refine WL.move rfl rfl rfl ?_
    refine WL.call [x.1, .func (.func 20) #[] #[]] enter19 rfl rfl rfl hsort ?_
    rintro y w7 ⟨rfl, l', hp7, ha7, so7, f7⟩
    refine ⟨_, rfl, ?_⟩
    refine WL.done ?_
    refine EW.on ?_
    refine EW.seq ?_
    refine EW.region ?_
    first | refine WL.move rfl rfl rfl ?_
    first | refine WL.assign rfl rfl rfl ?_
    refine WL.done ?_
    refine EW.on ?_
    refine EW.ret ?_
    exact EW.returns Try.results11 rfl ⟨_, l', rfl, hp7.trans (hperm.map _), ha7, so7, fun b hb => (R.ow b hb).1, R.be.trans (f7.below (fun k hk e => (by have := (R.ow k (by rw [hg, e]; rfl)).1; omega)) R.be.size)⟩
  · refine EW.region ?_
    refine WL.nxt rfl rfl rfl rn ?_
    refine WL.extract rfl rfl rfl (ext_3 _ _ _ _) ?_
    refine WL.done ?_
    refine EW.on ?_
    refine EW.seq ?_
    refine EW.cond_t rfl ?_
    refine EW.skip ?_
    refine EW.on ?_
    refine EW.block ?_
    refine EW.seq ?_
    obtain ⟨m, hmE, hmD, rfl⟩ : ∃ m, m ∈ E ∧ m.b ∉ x.2.map Me.b ∧ m.e = ee := by
      unfold leftOf at hee
      simp only [Array.toList_filter, List.mem_filter, List.toList_toArray, List.mem_map] at hee
      obtain ⟨⟨m, hm, rfl⟩, hb⟩ := hee
      refine ⟨m, hm, fun hh => ?_, rfl⟩
      have hc' : (x.2.map Me.b).toArray.contains m.e.born = true := by
        rw [List.contains_toArray, List.contains_iff_mem]
        exact hh
      rw [hc'] at hb
      cases hb
    have hmk := tbi.mp.ok m hmE
    obtain ⟨iS, fS⟩ := setB (o := .mapIter (some r) c ((x.2.map Me.b).toArray.push m.e.born) c) R.itr hw3
    generalize hw4 : Go.ChangeMaps.setBlock w3 it (.mapIter (some r) c ((x.2.map Me.b).toArray.push m.e.born) c) = w4 at iS fS ⊢
    have hitw : w.heap.size ≤ it := by have := l1.size; omega
    have hrl := h.mp.ltb
    have tb4 := tbi.fx fS (by have := h.bl.lt; omega) (by omega)
    have re := run_entry_at (P := Try.prog) w4 it r c _ _ c m.e iS tb4.mp.hp (by simpa using ⟨m, hmE, rfl⟩) (by
      rw [List.toList_toArray, List.map_map]
      exact tb4.mp.bn)
    have so4 := R.so.fx fS (fun b hb e => (R.ow b hb).2 e)
    obtain ⟨q4, wa, a1, ba, la, hq4⟩ := new63 w4 m.t m.n
    obtain ⟨wb, q5, a2, bb, lb, hq5⟩ := new29 wa
    obtain ⟨wc, s1, bc, fc⟩ := st63 (ba.on lb) m.t m.n
    obtain ⟨wd, s2, bd, fd⟩ := st29 (bb.fx fc (by have := ba.lt; omega)) z32l hmk.k
    have h45 : q4 < q5 := by have := ba.lt; omega
    have B4 : Blk wd q4 [u32v m.t, u32v m.n] 63 := bc.fx fd (by omega)
    have B5 : Blk wd q5 (m.k.map byt) 29 := bd
    have F4 : Below w4.heap.size w4 wd := (bt la lb).trans (((fc.below (fun k hk e => by omega) (bt la lb).size)).trans (fd.below (fun k hk e => by have := la.size; omega) (by have := (bt la lb).size; have := fc.size; omega)))
    have so5 := so4.on F4
    obtain ⟨vn, wn, c1, soN, lN, cN, hvN⟩ := bslS1 ⟨m.t, m.n, m.k⟩ hmk wd
    obtain ⟨v6, w6, c2, so6, f6, n6⟩ := (so5.on lN).app soN.sl (by
      have := len_le R.nd R.sub
      simp only [List.length_map, List.length_cons, List.length_nil]; omega) 36
    have hF : Below w4.heap.size w4 wn := bt F4 lN
    have R6 : LiR w r it E c (v6, x.2 ++ [m]) w6 := by
      have hown : ∀ b, v6.ownBlock = some b → w.heap.size ≤ b ∧ b ≠ it := fun b hb => by
        rcases n6 b hb with e | e
        · exact R.ow b e
        · have h1 := hF.size
          have h2 := fS.size
          have h3 : it < wi.heap.size := by
            rcases Nat.lt_or_ge it wi.heap.size with hl | hl
            · exact hl
            · have := R.itr
              rw [Array.getElem?_eq_none hl] at this; cases this
          omega
      refine ⟨by rw [List.map_append]; exact so6, ?_, ?_, ?_, ?_, hown, ?_⟩
      · rcases so6.ow.addr with ⟨_, e⟩ | ⟨g, cap, e⟩
        · simp [scs] at e
        · refine ⟨g, cap, ?_⟩
          rw [e, scs_len]
          simp
      · have h1 : wn.heap[it]? = some (.mapIter (some r) c ((x.2.map Me.b).toArray.push m.e.born) c) := by
          have hl : it < w4.heap.size := by
            rcases Nat.lt_or_ge it w4.heap.size with hl | hl
            · exact hl
            · rw [Array.getElem?_eq_none hl] at iS; cases iS
          rw [hF.block it hl]; exact iS
        have hl : it < wn.heap.size := by
          rcases Nat.lt_or_ge it wn.heap.size with hl | hl
          · exact hl
          · rw [Array.getElem?_eq_none hl] at h1; cases h1
        rw [f6.block it hl (fun e => (R.ow it e).2 rfl), h1, List.map_append]
        simp [Me.e]
      · intro y hy
        rcases List.mem_append.1 hy with hy | hy
        · exact R.sub y hy
        · rw [List.mem_singleton.1 hy]; exact hmE
      · rw [List.map_append, List.nodup_append]
        refine ⟨R.nd, by simp, fun a ha b hb e => ?_⟩
        simp only [List.map_cons, List.map_nil, List.mem_singleton] at hb
        rw [hb] at e
        exact hmD (e ▸ ha)
      · refine R.be.trans ((fS.below (fun k hk e => by omega) R.be.size).trans ((hF.mono (by have := fS.size; have := R.be.size; omega)).trans (f6.below (fun k hk e => ?_) (by have := hF.size; have := fS.size; have := R.be.size; omega))))
        have := (R.ow k e).1
        omega
    refine EW.region ?_
    refine WL.ent rfl rfl rfl re ?_
    first | refine WL.extract rfl rfl rfl (ext_2 _ _ _).1 ?_
    first | refine WL.extract rfl rfl rfl (ext_2 _ _ _).2 ?_
    refine WL.new rfl rfl a1 ?_
    refine WL.new rfl rfl a2 ?_
    refine WL.store rfl rfl rfl s1 ?_
    refine WL.store rfl rfl rfl s2 ?_
    refine WL.done ?_
    refine EW.on ?_
    refine EW.region ?_
    first | refine WL.move rfl rfl rfl ?_
    refine WL.field rfl rfl rfl (g63_0 q4 _) ?_
    refine WL.load rfl rfl rfl (B4.ldU (a := []) rfl rfl) ?_
    refine WL.field rfl rfl rfl (g63_1 q4 _) ?_
    refine WL.load rfl rfl rfl (B4.ldU (a := [u32v m.t]) rfl rfl) ?_
    refine WL.load rfl rfl rfl (ld29 B5 hmk.k) ?_
    refine WL.buildN [(0, u32v m.t), (1, u32v m.n), (2, kv m.k)] rfl rfl rfl (b39 _ _ _ hmk.k _) ?_
    refine WL.bslN [(0, Sk.v ⟨m.t, m.n, m.k⟩)] rfl rfl rfl c1 ?_
    refine WL.app rfl rfl rfl rfl c2 ?_
    first | refine WL.assign rfl rfl rfl ?_
    refine WL.done ?_
    refine pn_block ?_
    exact EW.again (E := liE p it) (R := LiR w r it E c) (m := fun x => E.length - x.2.length) (x := x) (v6, x.2 ++ [m]) [0, 3, 16] rfl R6 (by show E.length - (x.2 ++ [m]).length < E.length - x.2.length; have := len_le R6.nd R6.sub; simp only [List.length_append, List.length_cons, List.length_nil] at this ⊢; omega)
end Go.Proofs.Ytggehhlobjjmpaa
