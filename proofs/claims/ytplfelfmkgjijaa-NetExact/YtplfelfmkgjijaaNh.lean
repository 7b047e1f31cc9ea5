import Derived.Test.YtplfelfmkgjijaaNg
set_option linter.unusedVariables false
set_option linter.unusedSimpArgs false
namespace Go.Proofs.Ytplfelfmkgjijaa
open Go.RowKit

theorem ext_1 (a : Value) (W : World) : (Instr.extract (.tuple #[a]) 0).run Try.prog W = .ok a W := by go_simp
theorem ext_3 (a b c : Value) (W : World) : (Instr.extract (.tuple #[a, b, c]) 0).run Try.prog W = .ok a W := by go_simp
theorem rng56 {w : World} {r : Nat} {E : List Me} {c : Nat} (h : Mp w r E c) : ∃ w' it, (Instr.range 56 (.map (some r))).run Try.prog w = .ok (.pointer (some ⟨it, 0, none⟩)) w' ∧ w'.heap[it]? = some (.mapIter (some r) c #[] c) ∧ Below w.heap.size w w' ∧ it = w.heap.size := by
  have hg := getMap h.hp
  refine ⟨w.alloc (.mapIter (some r) c #[] c), w.heap.size, ?_, heap_alloc_new w _, below_new _ _, rfl⟩
  simp only [Instr.range, Sem.run_bind, run_underlying Try.underlying56, Result.andThen_ok, hg, Sem.run_pure]
  rfl
theorem setB {w w1 : World} {it : Nat} {o o' : Obj} (h : w.heap[it]? = some o') (hw : w1 = w ∨ w1 = w.drew) : (Go.ChangeMaps.setBlock w1 it o).heap[it]? = some o ∧ Fx (fun k => k = it) w (Go.ChangeMaps.setBlock w1 it o) := by
  have hi : it < w.heap.size := by
    rcases Nat.lt_or_ge it w.heap.size with hl | hl
    · exact hl
    · rw [Array.getElem?_eq_none hl] at h; cases h
  have e : w1.heap = w.heap ∧ w1.os = w.os ∧ w1.tape = w.tape ∧ w1.output = w.output := by rcases hw with rfl | rfl <;> exact ⟨rfl, rfl, rfl, rfl⟩
  refine ⟨?_, ⟨e.2.1, e.2.2.1, e.2.2.2, ?_, fun k hk hn => ?_⟩⟩
  · show (w1.heap.setIfInBounds it o)[it]? = _
    rw [e.1]; simp [hi]
  · show w.heap.size ≤ (w1.heap.setIfInBounds it o).size
    rw [e.1]; simp
  · show (w1.heap.setIfInBounds it o)[k]? = _
    rw [e.1, Array.getElem?_setIfInBounds, if_neg (fun e => hn e.symm)]
theorem nodup_inj : ∀ {E : List Me}, (E.map Me.b).Nodup → ∀ {x y : Me}, x ∈ E → y ∈ E → x.b = y.b → x = y
  | [], _, x, y, hx, _, _ => by cases hx
  | a :: r, h, x, y, hx, hy, hb => by
    rw [List.map_cons, List.nodup_cons] at h
    rcases List.mem_cons.1 hx with ex | hx'
    · rcases List.mem_cons.1 hy with ey | hy'
      · rw [ex, ey]
      · exact absurd (List.mem_map.2 ⟨y, hy', by rw [← hb, ex]⟩) h.1
    · rcases List.mem_cons.1 hy with ey | hy'
      · exact absurd (List.mem_map.2 ⟨x, hx', by rw [hb, ey]⟩) h.1
      · exact nodup_inj h.2 hx' hy' hb
theorem nodup_of {D : List Me} (h : (D.map Me.b).Nodup) : D.Nodup := List.Pairwise.of_map Me.b (fun a b hne e => hne (congrArg Me.b e)) h
theorem len_sub : ∀ {D E : List Me}, D.Nodup → (∀ m ∈ D, m ∈ E) → D.length ≤ E.length
  | [], E, _, _ => Nat.zero_le _
  | d :: D, E, hn, hs => by
    obtain ⟨a, b, rfl⟩ := List.append_of_mem (hs d (by simp))
    rw [List.nodup_cons] at hn
    have := len_sub (D := D) (E := a ++ b) hn.2 (fun m hm => by
      have h1 := hs m (by simp [hm])
      rcases List.mem_append.1 h1 with h | h
      · exact List.mem_append.2 (.inl h)
      · rcases List.mem_cons.1 h with e | h
        · rw [e] at hm; exact absurd hm hn.1
        · exact List.mem_append.2 (.inr h))
    simp only [List.length_append, List.length_cons] at this ⊢
    omega
theorem len_le {E D : List Me} (hD : (D.map Me.b).Nodup) (hs : ∀ m ∈ D, m ∈ E) : D.length ≤ E.length := len_sub (nodup_of hD) hs
/-- What was handed out once in every way is all there is. -/
theorem sub_perm {E D : List Me} (hE : (E.map Me.b).Nodup) (hD : (D.map Me.b).Nodup) (hs : ∀ m ∈ D, m ∈ E) (hall : ∀ m ∈ E, m.b ∈ D.map Me.b) : D.Perm E := by
  refine (List.perm_ext_iff_of_nodup ?_ ?_).2 fun m => ⟨hs m, fun hm => ?_⟩
  · exact nodup_of hD
  · exact nodup_of hE
  · obtain ⟨x, hx, hb⟩ := List.mem_map.1 (hall m hm)
    have := hs x hx
    rwa [← nodup_inj hE this hm hb]
/-- The copies are flights that say the same. -/
def Cop (w : World) (b0 : Nat) (v : Value) (X : List Fl) (D : List (Int × Int × Int × List UInt8)) : Prop :=
  X.map Fl.d = D ∧ ∀ x ∈ X, Bx w b0 x.v x.b ∧ ∀ k, v.ownBlock = some k → x.v.ownBlock ≠ some k
theorem iter_off {w : World} {v : Value} {bs : List UInt8} {r : Nat} {a b : Nat} {c : Option Nat} {d : Array Nat} (h : Has w v bs) (hp : w.heap[r]? = some (.mapIter c a d b)) : Off v bs r := by
  rcases h with ⟨rfl, rfl⟩ | ⟨ad, cap, rfl, h2, h3⟩
  · exact .inl rfl
  · cases bs with
    | nil => exact .inl rfl
    | cons u l =>
      refine .inr fun e => ?_
      simp only [Value.ownBlock, Option.some.injEq] at e
      have hc := h3 0 u rfl
      have h0 : ad.add 0 = ad := by simp [Addr.add]
      rw [h0] at hc
      unfold World.cell? at hc
      rw [e, hp] at hc
      cases hc
theorem own_iter {w : World} {b0 : Nat} {v : Value} {bs : List UInt8} {r : Nat} {a b : Nat} {c : Option Nat} {d : Array Nat} (h : Bx w b0 v bs) (hp : w.heap[r]? = some (.mapIter c a d b)) (e : v.ownBlock = some r) : False := by
  obtain ⟨g, hg, rfl, hb⟩ := h
  simp only [Value.ownBlock, Option.some.injEq] at e
  unfold Blk at hb
  rw [← e, hb] at hp
  cases hp
def liE (p it : Nat) (x : Value × List Me × List Fl) : List (Nat × Value) := [(0, .pointer (some ⟨p, 0, none⟩)), (3, x.1), (16, .pointer (some ⟨it, 0, none⟩))]
structure LiR (w : World) (r it : Nat) (E : List Me) (c : Nat) (x : Value × List Me × List Fl) (W : World) : Prop where
  so : Fo W x.1 x.2.2
  sh : ∃ g cap, x.1 = .slice (some ⟨g, 0, none⟩) x.2.2.length cap
  itr : W.heap[it]? = some (.mapIter (some r) c (x.2.1.map Me.b).toArray c)
  sub : ∀ m ∈ x.2.1, m ∈ E
  nd : (x.2.1.map Me.b).Nodup
  ow : ∀ b, x.1.ownBlock = some b → w.heap.size ≤ b ∧ b ≠ it
  cp : Cop W w.heap.size x.1 x.2.2 (x.2.1.map fun m => m.x.d)
  ap : (x.2.2.map fun y => y.v.ownBlock).Nodup
  be : Below w.heap.size w W
theorem cop_len {w : World} {b0 : Nat} {v : Value} {X : List Fl} {D : List (Int × Int × Int × List UInt8)} (h : Cop w b0 v X D) : X.length = D.length := by rw [← h.1, List.length_map]
/-- A number sorts. -/
theorem asc_uniq : ∀ {L l : List (Int × Int × Int × List UInt8)}, l.Perm L → l.Pairwise (fun a b => ¬ b.1 < a.1) → L.Pairwise (fun a b => a.1 < b.1) → l = L
  | [], l, hp, _, _ => hp.eq_nil
  | a :: L, [], hp, _, _ => by cases hp.symm.eq_nil
  | a :: L, b :: l, hp, ha, hL => by
    rw [List.pairwise_cons] at hL ha
    have e : b = a := by
      refine Classical.byContradiction fun hne => ?_
      have h1 : b ∈ L := by
        rcases List.mem_cons.1 (hp.subset (List.mem_cons_self ..)) with h | h
        · exact absurd h hne
        · exact h
      have h2 : a ∈ l := by
        rcases List.mem_cons.1 (hp.symm.subset (List.mem_cons_self ..)) with h | h
        · exact absurd h.symm hne
        · exact h
      exact ha.1 a h2 (hL.1 b h1)
    subst e
    rw [asc_uniq (List.Perm.cons_inv hp) ha.2 hL.2]
/-- What is told of the flights. -/
def dat (E : List Me) : List (Int × Int × Int × List UInt8) := E.map fun m => m.x.d
theorem dat_asc {E : List Me} (h : (E.map fun m => m.x.n).Pairwise (· < ·)) : (dat E).Pairwise (fun a b => a.1 < b.1) := by
  unfold dat
  rw [List.pairwise_map] at h ⊢
  exact h
set_option maxRecDepth 100000 in
set_option maxHeartbeats 4000000 in
theorem flights_any {w : World} {p r : Nat} {nodes most next : Int} {E : List Me} {c : Nat} (h : Nt w p r nodes most next E c) (hE : E.length ≤ 100000) : Calls Try.prog 11 #[.pointer (some ⟨p, 0, none⟩)] w fun e w' => ∃ v l, e = .returned v ∧ l.map Fl.d = dat E ∧ Fo w' v l ∧ (∀ b, v.ownBlock = some b → w.heap.size ≤ b) ∧ (∀ x ∈ l, Bx w' w.heap.size x.v x.b ∧ ∀ k, v.ownBlock = some k → x.v.ownBlock ≠ some k) ∧ (l.map fun y => y.v.ownBlock).Nodup ∧ Below w.heap.size w w' := by
  obtain ⟨v1, w1, r1, so1, l1, c1', hv1⟩ := mkF w E.length hE
  have h1 := h.on l1
  obtain ⟨w2, it, r2, i2, l2, hit⟩ := rng56 h1.mp
  refine calls_of_args [.pointer (some ⟨p, 0, none⟩)] Try.func11 rfl 29 Try.ntmps11 (by show 1 ≤ 29; decide) ?_
  refine EW.seq ?_
  refine EW.region ?_
  first | refine WL.assign rfl rfl rfl ?_
  refine WL.done ?_
  refine EW.on ?_
  refine EW.seq ?_
  refine EW.region ?_
  first | refine WL.move rfl rfl rfl ?_
  first | refine WL.nilc rfl rfl rfl ?_
  refine WL.field rfl rfl rfl (g58_3 p _) ?_
  refine WL.load rfl rfl rfl (ld56 h) ?_
  refine WL.len rfl rfl rfl (len56 h.mp _) ?_
  refine WL.mks rfl rfl rfl rfl r1 ?_
  first | refine WL.assign rfl rfl rfl ?_
  refine WL.done ?_
  refine EW.on ?_
  refine EW.seq ?_
  refine EW.seq ?_
  refine EW.region ?_
  first | refine WL.move rfl rfl rfl ?_
  first | refine WL.nilc rfl rfl rfl ?_
  refine WL.field rfl rfl rfl (g58_3 p _) ?_
  refine WL.load rfl rfl rfl (ld56 h1) ?_
  refine WL.rng rfl rfl rfl r2 ?_
  refine WL.done ?_
  refine EW.on ?_
  refine EW.block ?_
  refine EW.loop (liE p it) (LiR w r it E c) (fun x => E.length - x.2.1.length) (v1, [], []) [0, 3, 16] rfl ⟨so1.on l2, ⟨_, _, hv1⟩, i2, fun m hm => (by cases hm), List.nodup_nil, fun b hb => (by rw [hv1] at hb; have hb' : w.heap.size = b := (by simpa [Value.ownBlock] using hb); have := so1.ow.lt (b := b) (by rw [hv1, ← hb']; rfl); omega), ⟨rfl, fun x hx => (by cases hx)⟩, List.nodup_nil, bt l1 l2⟩ ?_
  rintro x wi R
  show EW _ _ _ _ [(0, .pointer (some ⟨p, 0, none⟩)), (3, x.1), (16, .pointer (some ⟨it, 0, none⟩))] _
  refine EW.seq ?_
  have tbi := h.on R.be
  have hib := R.be.size
  rcases run_next_at (P := Try.prog) wi 0 it r c c _ _ c R.itr tbi.mp.hp (fun x hx => by
    obtain ⟨m, hm, rfl⟩ := List.mem_map.1 (by simpa using hx)
    exact tbi.mp.lt m hm) (Nat.le_refl _) with ⟨h0, rn⟩ | ⟨ee, hee, w3, hw3, rn⟩
  · refine EW.region ?_
    refine WL.nxt rfl rfl rfl rn ?_
    refine WL.extract rfl rfl rfl (ext_1 _ _) ?_
    refine WL.done ?_
    refine EW.on ?_
    refine EW.seq ?_
    refine EW.cond_f rfl ?_
    refine EW.exit ?_
    refine px_then ?_
    refine px_then ?_
    refine px_block ?_
    refine EW.on ?_
    refine EW.seq ?_
    obtain ⟨g, cap, hg⟩ := R.sh
    have hsoX : Fo wi (.slice (some ⟨g, 0, none⟩) x.2.2.length cap) x.2.2 := by
      have := R.so
      rw [hg] at this
      exact this
    have hsort := sort_any hsoX (by have := len_le R.nd R.sub; have := cop_len R.cp; rw [List.length_map] at this; omega)
    rw [← hg] at hsort
    have hall : ∀ m ∈ E, m.b ∈ x.2.1.map Me.b := fun m hm => by
      refine Classical.byContradiction fun hn => ?_
      have hmem : m.e ∈ leftOf (E.map Me.e).toArray (x.2.1.map Me.b).toArray := by
        unfold leftOf
        rw [Array.mem_filter]
        refine ⟨by simpa using ⟨m, hm, rfl⟩, ?_⟩
        have : (x.2.1.map Me.b).toArray.contains m.e.born = false := by
          rw [List.contains_toArray, Bool.eq_false_iff, ne_eq, List.contains_iff_mem]
          exact hn
        rw [this]; rfl
      rw [Array.eq_empty_of_size_eq_zero h0] at hmem
      simp at hmem
    have hperm := sub_perm h.mp.bn R.nd R.sub hall
    refine EW.region ?_
    first | refine WL.move rfl rfl rfl ?_
    refine WL.call [x.1, .func (.func 25) #[] #[]] enter24 rfl rfl rfl hsort ?_
    rintro y w7 ⟨rfl, l', hp7, ha7, so7, f7⟩
    refine ⟨_, rfl, ?_⟩
    refine WL.done ?_
    refine EW.on ?_
    refine EW.seq ?_
    refine EW.region ?_
    first | refine WL.move rfl rfl rfl ?_
    first | refine WL.assign rfl rfl rfl ?_
    refine WL.done ?_
    have hdat : l'.map Fl.d = dat E := by
      refine asc_uniq ((hp7.map Fl.d).trans (by rw [R.cp.1]; exact hperm.map _)) ?_ (dat_asc h.asc)
      rw [List.pairwise_map]
      exact ha7
    have hgx : x.1.ownBlock = some g := by rw [hg]; rfl
    have hcop : ∀ y ∈ l', Bx w7 w.heap.size y.v y.b ∧ ∀ k, x.1.ownBlock = some k → y.v.ownBlock ≠ some k := fun y hy => by
      obtain ⟨g1, g2⟩ := R.cp.2 y (hp7.subset hy)
      exact ⟨g1.fx f7 (fun k hk e => g2 k (by rw [hgx]; exact congrArg some e.symm) hk), g2⟩
    have hso : Fo w7 x.1 l' := so7
    refine EW.on ?_
    refine EW.ret ?_
    exact EW.returns Try.results11 rfl ⟨_, l', rfl, hdat, hso, fun b hb => (R.ow b hb).1, hcop, (hp7.map _).nodup_iff.2 R.ap, R.be.trans (f7.below (fun k hk e => (by have := (R.ow k (by rw [hg, e]; rfl)).1; omega)) R.be.size)⟩
  · refine EW.region ?_
    refine WL.nxt rfl rfl rfl rn ?_
    refine WL.extract rfl rfl rfl (ext_3 _ _ _ _) ?_
    refine WL.done ?_
    refine EW.on ?_
    refine EW.seq ?_
    refine EW.cond_t rfl ?_
    refine EW.skip ?_
    refine EW.on ?_
    refine EW.block ?_
    refine EW.seq ?_
    obtain ⟨m, hmE, hmD, rfl⟩ : ∃ m, m ∈ E ∧ m.b ∉ x.2.1.map Me.b ∧ m.e = ee := by
      unfold leftOf at hee
      simp only [Array.toList_filter, List.mem_filter, List.toList_toArray, List.mem_map] at hee
      obtain ⟨⟨m, hm, rfl⟩, hb⟩ := hee
      refine ⟨m, hm, fun hh => ?_, rfl⟩
      have hc' : (x.2.1.map Me.b).toArray.contains m.e.born = true := by
        rw [List.contains_toArray, List.contains_iff_mem]
        exact hh
      rw [hc'] at hb
      cases hb
    obtain ⟨iS, fS⟩ := setB (o := .mapIter (some r) c ((x.2.1.map Me.b).toArray.push m.e.born) c) R.itr hw3
    generalize hw4 : Go.ChangeMaps.setBlock w3 it (.mapIter (some r) c ((x.2.1.map Me.b).toArray.push m.e.born) c) = w4 at iS fS ⊢
    have hitw : w.heap.size ≤ it := by have := l1.size; omega
    have hrl := h.mp.ltb
    have itOff : ∀ {v : Value} {bs : List UInt8}, Has wi v bs → Off v bs it := fun {v bs} hh => iter_off hh R.itr
    have hitB : ∀ y ∈ x.2.2, y.v.ownBlock ≠ some it := fun y hy e => by
      obtain ⟨g1, g2⟩ := R.cp.2 y hy
      exact own_iter g1 R.itr e
    have tb4 := tbi.fx fS (by have := h.bl.lt; omega) (by omega) (fun m' hm' k hk => by
      have e : k = it := hk
      rw [e]; exact itOff (tbi.hs m' hm'))
    have re := run_entry_at (P := Try.prog) w4 it r c _ _ c m.e iS tb4.mp.hp (by simpa using ⟨m, hmE, rfl⟩) (by
      rw [List.toList_toArray, List.map_map]
      exact tb4.mp.bn)
    have so4 := R.so.fx fS (fun b hb e => (R.ow b hb).2 e)
    obtain ⟨q5, w4', w5, a1, s1, b5, l5, hq5⟩ := newF w4 m.x (tb4.mp.ok m hmE)
    have hx5 := (tb4.hs m hmE).below l5
    refine EW.region ?_
    refine WL.ent rfl rfl rfl re ?_
    first | refine WL.extract rfl rfl rfl (ext_2 _ _ _).2 ?_
    refine WL.new rfl rfl a1 ?_
    refine WL.store rfl rfl rfl s1 ?_
    refine WL.done ?_
    refine EW.on ?_
    refine EW.region ?_
    first | refine WL.move rfl rfl rfl ?_
    refine WL.load rfl rfl rfl (ld36 b5) ?_
    refine WL.call [m.x.g] enter23 rfl rfl rfl (own_any m.x _ hx5 (tbi.lb m hmE)) ?_
    rintro y w7 ⟨v', rfl, own7, l7⟩
    refine ⟨_, rfl, ?_⟩
    obtain ⟨k7, hk7⟩ := own7.blk
    obtain ⟨vn, wn, c1, soN, lN, cN, hvN⟩ := bslF1 ⟨m.x.n, m.x.f, m.x.t, v', m.x.b⟩ (sh_of own7.has) w7
    have F7 : Below w4.heap.size w4 wn := bt l5 (bt l7 lN)
    obtain ⟨v6, w6, c2, so6, f6, n6⟩ := (so4.on F7).app soN.fs (by
      have := len_le R.nd R.sub
      have := cop_len R.cp
      rw [List.length_map] at this
      simp only [List.length_cons, List.length_nil]; omega) 31
    have hitl : it < wi.heap.size := by
      rcases Nat.lt_or_ge it wi.heap.size with hl | hl
      · exact hl
      · have := R.itr
        rw [Array.getElem?_eq_none hl] at this; cases this
    have hw4s := fS.size
    have R6 : LiR w r it E c (v6, x.2.1 ++ [m], x.2.2 ++ [⟨m.x.n, m.x.f, m.x.t, v', m.x.b⟩]) w6 := by
      have hown : ∀ b, v6.ownBlock = some b → w.heap.size ≤ b ∧ b ≠ it := fun b hb => by
        rcases n6 b hb with e | e
        · exact R.ow b e
        · have h1 := F7.size
          omega
      have hsz7 := l7.size
      have hszN := lN.size
      have hsz5 := l5.size
      have own7' : ∀ k, v'.ownBlock = some k → w5.heap.size ≤ k ∧ k < w7.heap.size := fun k hk => ⟨own7.ownBlock k hk, own7.lt hk⟩
      have hvx : ∀ k, x.1.ownBlock = some k → k < wi.heap.size := fun k hk => R.so.ow.lt hk
      refine ⟨so6, ?_, ?_, ?_, ?_, hown, ?_, ?_, ?_⟩
      · rcases so6.ow.addr with ⟨_, e⟩ | ⟨g, cap, e⟩
        · simp [fcs] at e
        · refine ⟨g, cap, ?_⟩
          rw [e, fcs_len]
      · have h1 : wn.heap[it]? = some (.mapIter (some r) c ((x.2.1.map Me.b).toArray.push m.e.born) c) := by
          rw [F7.block it (by omega)]; exact iS
        rw [f6.block it (by have := F7.size; omega) (fun e => (R.ow it e).2 rfl), h1, List.map_append]
        simp [Me.e]
      · intro y hy
        rcases List.mem_append.1 hy with hy | hy
        · exact R.sub y hy
        · rw [List.mem_singleton.1 hy]; exact hmE
      · rw [List.map_append, List.nodup_append]
        refine ⟨R.nd, by simp, fun a ha b hb e => ?_⟩
        simp only [List.map_cons, List.map_nil, List.mem_singleton] at hb
        rw [hb] at e
        exact hmD (e ▸ ha)
      · refine ⟨by rw [List.map_append, List.map_append, R.cp.1]; rfl, fun y hy => ?_⟩
        rcases List.mem_append.1 hy with hy | hy
        · obtain ⟨g1, g2⟩ := R.cp.2 y hy
          have g3 : ∀ k, y.v.ownBlock = some k → k < wi.heap.size ∧ w.heap.size ≤ k := fun k hk => ⟨g1.lt hk, g1.ownBlock k hk⟩
          have g1' : Bx w4 w.heap.size y.v y.b := g1.fx fS (fun k hk e => by
            have h1 := R.ap
            have e' : k = it := e
            exact hitB y hy (by rw [hk, e']))
          refine ⟨(g1'.below F7).fx f6 (fun k hk e => g2 k e hk), fun k hk e => ?_⟩
          rcases n6 k hk with e2 | e2
          · exact g2 k e2 e
          · have := g3 k e
            have := F7.size
            omega
        · rw [List.mem_singleton.1 hy]
          refine ⟨((own7.below lN).fx f6 (fun k hk e => by have := own7' k hk; have := hvx k e; omega)).weaken (by have := R.be.size; omega), fun k hk e => ?_⟩
          rcases n6 k hk with e2 | e2
          · have := own7' k e; have := hvx k e2; omega
          · have := own7' k e; omega
      · rw [List.map_append, List.nodup_append]
        refine ⟨R.ap, by simp, fun a ha b hb e => ?_⟩
        obtain ⟨y, hy, rfl⟩ := List.mem_map.1 ha
        simp only [List.map_cons, List.map_nil, List.mem_singleton] at hb
        rw [hb] at e
        have := own7' k7 hk7
        have h2 := (R.cp.2 y hy).1.lt (k := k7) (e.trans hk7)
        omega
      · refine R.be.trans ((fS.below (fun k hk e => by omega) R.be.size).trans ((F7.mono (by have := R.be.size; omega)).trans (f6.below (fun k hk e => ?_) (by have := F7.size; have := R.be.size; omega))))
        have := (R.ow k e).1
        omega
    refine WL.bslN [(0, Fl.g ⟨m.x.n, m.x.f, m.x.t, v', m.x.b⟩)] rfl rfl rfl c1 ?_
    refine WL.app rfl rfl rfl rfl c2 ?_
    first | refine WL.assign rfl rfl rfl ?_
    refine WL.done ?_
    refine pn_block ?_
    exact EW.again (E := liE p it) (R := LiR w r it E c) (m := fun x => E.length - x.2.1.length) (x := x) (v6, x.2.1 ++ [m], x.2.2 ++ [⟨m.x.n, m.x.f, m.x.t, v', m.x.b⟩]) [0, 3, 16] rfl R6 (by show E.length - (x.2.1 ++ [m]).length < E.length - x.2.1.length; have := len_le R6.nd R6.sub; simp only [List.length_append, List.length_cons, List.length_nil] at this ⊢; omega)
end Go.Proofs.Ytplfelfmkgjijaa
