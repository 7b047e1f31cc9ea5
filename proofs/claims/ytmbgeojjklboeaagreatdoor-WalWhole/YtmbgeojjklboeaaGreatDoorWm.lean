import Derived.Test.YtmbgeojjklboeaaGreatDoorQaG
set_option linter.unusedVariables false
set_option linter.unusedSimpArgs false
namespace Go.Proofs.YtmbgeojjklboeaaGreatDoor
open Go.RowKit

theorem sp_get : ∀ (sp : List (Nat × Nat)) (t : Nat) (x : Nat × Nat), sp[t]? = some x → ∀ j, j < 2 → (sp.flatMap fun x => spC x.1 x.2)[2 * t + j]? = (spC x.1 x.2)[j]?
  | [], t, x, h, j, hj => by simp at h
  | a :: r, 0, x, h, j, hj => by
    simp only [List.getElem?_cons_zero, Option.some.injEq] at h
    subst h
    rw [List.flatMap_cons, List.getElem?_append_left (by simp [spC]; omega)]
    simp
  | a :: r, t + 1, x, h, j, hj => by
    simp only [List.getElem?_cons_succ] at h
    rw [List.flatMap_cons, List.getElem?_append_right (by simp [spC]; omega), ← sp_get r t x h j hj]
    congr 1
    simp [spC]
    omega
theorem idx99 (q t n : Nat) (h : t < n) (W : World) : (Instr.indexAt 118 (.slice (some ⟨q, 0, none⟩) n n) (.int .i64 (t : Int))).run Tryz.prog W = .ok (.pointer (some ⟨q, 2 * t, none⟩)) W := by
  have hm : (t : Int) < (n : Int) := by omega
  have e : (⟨q, 0, none⟩ : Addr).add (t * 2) = ⟨q, 2 * t, none⟩ := by rw [add_plain0]; congr 1; omega
  rw [← e]
  go_simp
theorem ld63 {W : World} {q t : Nat} {sp : List (Nat × Nat)} {x : Nat × Nat} (hb : Blk W q (sp.flatMap fun x => spC x.1 x.2) 85) (h : sp[t]? = some x) : (Instr.loadAt 85 (.pointer (some ⟨q, 2 * t, none⟩))).run Tryz.prog W = .ok (.agg (spC x.1 x.2).toArray) W := by
  refine run_loadA (fun j v hj => ?_) Tryz.underlying85 rfl (info63 _ _)
  rw [add_plain2, hb.cell, sp_get sp t x h j (by have := (List.getElem?_eq_some_iff.1 hj).1; simpa [spC] using this)]
  exact hj
theorem fld63_0 (q : Nat) (W : World) : (Instr.fieldAt 85 (.pointer (some ⟨q, 0, none⟩)) 0).run Tryz.prog W = .ok (.pointer (some ⟨q, 0, none⟩)) W := by go_simp
theorem fld63_1 (q : Nat) (W : World) : (Instr.fieldAt 85 (.pointer (some ⟨q, 0, none⟩)) 1).run Tryz.prog W = .ok (.pointer (some ⟨q, 1, none⟩)) W := by go_simp
theorem ldsp0 {W : World} {q a b : Nat} (hb : Blk W q (spC a b) 85) : (Instr.loadAt 3 (.pointer (some ⟨q, 0, none⟩))).run Tryz.prog W = .ok (.int .i64 (a : Int)) W := by
  have hc : W.cell? ⟨q, 0, none⟩ = some (.int .i64 (a : Int)) := hb.cell 0
  have hf := hb.frozen 0
  go_simp
theorem ldsp1 {W : World} {q a b : Nat} (hb : Blk W q (spC a b) 85) : (Instr.loadAt 3 (.pointer (some ⟨q, 1, none⟩))).run Tryz.prog W = .ok (.int .i64 (b : Int)) W := by
  have hc : W.cell? ⟨q, 1, none⟩ = some (.int .i64 (b : Int)) := hb.cell 1
  have hf := hb.frozen 1
  go_simp
theorem len99 (ao : Option Addr) (n c : Nat) (W : World) (ty : TypeId) : (Builtin.len_ #[118] ty #[.slice ao n c]).run Tryz.prog W = .ok (.int .i64 (n : Int)) W := by go_simp
theorem zB_is {b : List UInt8} (h : zB b = true) (hl : b.length = 512) : b = zS := by
  unfold zB at h
  rw [List.all_eq_true] at h
  refine List.eq_replicate_of_mem (fun x hx => ?_) |>.trans (by rw [hl]; rfl)
  simpa using h x hx
theorem zB_zS : zB zS = true := by
  unfold zB zS
  rw [List.all_eq_true]
  intro x hx
  rw [List.eq_of_mem_replicate hx]
  rfl
/-- Is a sector within one of the spans? -/
def covB (sp : List (Nat × Nat)) (j : Nat) : Bool := sp.any fun x => decide (x.1 ≤ j ∧ j < x.2)
/-- Zeros, within the spans. -/
def wipS (sp : List (Nat × Nat)) (s : Nat → List UInt8) : Nat → List UInt8 := fun j => if covB sp j then zS else s j
/-- Between two looks: what was visited (V) is zeros, the rest as it was. -/
structure WpI (L : Lay) (N : Nat) (s : Nat → List UInt8) (c k : Nat) (V : Nat → Prop) (s' : Nat → List UInt8) (m' c' : Nat) (b : Bool) : Prop where
  v : ∀ j, j < N → V j → s' j = zS
  n : ∀ j, j < N → ¬ V j → s' j = s j
  f : b = false → m' = 0 ∧ c' = c
  y : b = true → ∃ j, j < N ∧ V j ∧ zB (s j) = false
  mm : m' ≤ k
  cc : c' ≤ c + k
theorem WpI.same {L : Lay} {N : Nat} {s s' : Nat → List UInt8} {c k m' c' : Nat} {V V' : Nat → Prop} {b : Bool} (h : WpI L N s c k V s' m' c' b) (i : Nat) (hl : i < N → (s' i).length = 512) (hz : zB (s' i) = true) (hV : ∀ j, V' j ↔ (V j ∨ j = i)) : WpI L N s c (k + 1) V' s' m' c' b :=
  ⟨fun j hj hv => by
    rcases (hV j).1 hv with h1 | rfl
    · exact h.v j hj h1
    · exact zB_is hz (hl hj), fun j hj hv => h.n j hj (fun h1 => hv ((hV j).2 (.inl h1))), h.f, fun hb => by
    obtain ⟨j, h1, h2, h3⟩ := h.y hb
    exact ⟨j, h1, (hV j).2 (.inl h2), h3⟩, by have := h.mm; omega, by have := h.cc; omega⟩
theorem WpI.wiped {L : Lay} {N : Nat} {s s' : Nat → List UInt8} {c k m' c' : Nat} {V V' : Nat → Prop} {b : Bool} (h : WpI L N s c k V s' m' c' b) (i : Nat) (hi : i < N) (hz : ¬ zB (s' i) = true) (hV : ∀ j, V' j ↔ (V j ∨ j = i)) : WpI L N s c (k + 1) V' (setS s' i zS) (m' + 1) (c' + 1) true :=
  ⟨fun j hj hv => by
    unfold setS
    by_cases e : j = i
    · rw [if_pos e]
    · rw [if_neg e]
      rcases (hV j).1 hv with h1 | h1
      · exact h.v j hj h1
      · exact absurd h1 e, fun j hj hv => by
    unfold setS
    rw [if_neg (fun e => hv ((hV j).2 (.inr e)))]
    exact h.n j hj (fun h1 => hv ((hV j).2 (.inl h1))), fun e => by simp at e, fun _ => by
    refine ⟨i, hi, (hV i).2 (.inr rfl), ?_⟩
    have hv : ¬ V i := fun hv => hz (by rw [h.v i hi hv]; exact zB_zS)
    rw [← h.n i hi hv]
    simpa using hz, by have := h.mm; omega, by have := h.cc; omega⟩
theorem WpI.ext {L : Lay} {N : Nat} {s s' : Nat → List UInt8} {c k k' m' c' : Nat} {V V' : Nat → Prop} {b : Bool} (h : WpI L N s c k V s' m' c' b) (hV : ∀ j, V' j ↔ V j) (hk : k ≤ k') : WpI L N s c k' V' s' m' c' b := by
  have e : V' = V := funext fun j => propext (hV j)
  subst e
  exact ⟨h.v, h.n, h.f, h.y, by have := h.mm; omega, by have := h.cc; omega⟩
/-- What the loops carry: the number, the layout, the sectors, how many writes are pending, how many calls, and whether one was wiped. -/
structure Wd where
  t : Nat
  L : Lay
  s : Nat → List UInt8
  m : Nat
  c : Nat
  b : Bool
def Vis (sp : List (Nat × Nat)) (t : Nat) (j : Nat) : Prop := ∃ x ∈ sp.take t, x.1 ≤ j ∧ j < x.2
def woE (q qs n : Nat) (x : Wd) : List (Nat × Value) := [(2, .pointer (some ⟨q, 0, none⟩)), (4, .bool x.b), (8, .slice (some ⟨qs, 0, none⟩) n n), (9, .int .i64 (n : Int)), (10, .int .i64 (x.t : Int))]
structure WoR (w1 : World) (L : Lay) (N : Nat) (s : Nat → List UInt8) (c : Nat) (sp : List (Nat × Nat)) (x : Wd) (W : World) : Prop where
  t : Turn w1 W L x.L
  d : Dk W x.L N x.s x.m x.c
  le : x.t ≤ sp.length
  i : WpI L N s c (10000 * x.t) (Vis sp x.t) x.s x.m x.c x.b
def wnE (q qs n q6 t : Nat) (x : Wd) : List (Nat × Value) := [(2, .pointer (some ⟨q, 0, none⟩)), (4, .bool x.b), (6, .pointer (some ⟨q6, 0, none⟩)), (7, .int .i64 (x.t : Int)), (8, .slice (some ⟨qs, 0, none⟩) n n), (9, .int .i64 (n : Int)), (10, .int .i64 (t : Int))]
structure WnR (w4 : World) (L Li : Lay) (N : Nat) (s : Nat → List UInt8) (c : Nat) (sp : List (Nat × Nat)) (t : Nat) (z : Nat × Nat) (x : Wd) (W : World) : Prop where
  tu : Turn w4 W Li x.L
  d : Dk W x.L N x.s x.m x.c
  lo : z.1 ≤ x.t
  hi : x.t ≤ z.1 ∨ x.t ≤ z.2
  i : WpI L N s c (10000 * t + (x.t - z.1)) (fun j => Vis sp t j ∨ (z.1 ≤ j ∧ j < x.t)) x.s x.m x.c x.b
theorem vis_snoc {sp : List (Nat × Nat)} {t : Nat} {z : Nat × Nat} (h : sp[t]? = some z) (j : Nat) : Vis sp (t + 1) j ↔ (Vis sp t j ∨ (z.1 ≤ j ∧ j < z.2)) := by
  unfold Vis
  rw [List.take_add_one, h]
  simp only [Option.toList_some, List.mem_append, List.mem_singleton]
  constructor
  · rintro ⟨x, hx | rfl, h2⟩
    · exact .inl ⟨x, hx, h2⟩
    · exact .inr h2
  · rintro (⟨x, hx, h2⟩ | h2)
    · exact ⟨x, .inl hx, h2⟩
    · exact ⟨z, .inr rfl, h2⟩
theorem vis_all {sp : List (Nat × Nat)} {t : Nat} (h : sp.length ≤ t) (j : Nat) : Vis sp t j ↔ covB sp j = true := by
  unfold Vis covB
  rw [List.take_of_length_le h, List.any_eq_true]
  simp
theorem wip_is {L : Lay} {N : Nat} {s s' : Nat → List UInt8} {c k m' c' t : Nat} {b : Bool} {sp : List (Nat × Nat)} (h : WpI L N s c k (Vis sp t) s' m' c' b) (ht : sp.length ≤ t) (j : Nat) (hj : j < N) : s' j = wipS sp s j := by
  unfold wipS
  by_cases e : covB sp j = true
  · rw [if_pos e]; exact h.v j hj ((vis_all ht j).2 e)
  · rw [if_neg e]; exact h.n j hj (fun hv => e ((vis_all ht j).1 hv))
theorem step_iff {V : Nat → Prop} {a i : Nat} (h : a ≤ i) (j : Nat) : (V j ∨ (a ≤ j ∧ j < i + 1)) ↔ ((V j ∨ (a ≤ j ∧ j < i)) ∨ j = i) := by
  constructor
  · rintro (h1 | h1)
    · exact .inl (.inl h1)
    · by_cases e : j = i
      · exact .inr e
      · exact .inl (.inr ⟨h1.1, by omega⟩)
  · rintro ((h1 | h1) | h1)
    · exact .inl h1
    · exact .inr ⟨h1.1, by omega⟩
    · exact .inr ⟨by omega, by omega⟩
set_option maxRecDepth 100000 in
set_option maxHeartbeats 1000000 in
theorem wipe_ok {w : World} {L : Lay} {N : Nat} {s : Nat → List UInt8} {c : Nat} (n : Nat) (h : Dk w L N s 0 c) (hN : N ≤ 10000) (qs : Nat) (sp : List (Nat × Nat)) (hs : Blk w qs (sp.flatMap fun x => spC x.1 x.2) 85) (hsF : ¬ L.F qs) (hsp : ∀ x ∈ sp, x.2 ≤ N) (hsl : sp.length ≤ 4) (hcal : c ≤ 1000000) : Calls Tryz.prog 38 #[dkV L.p n, .slice (some ⟨qs, 0, none⟩) sp.length sp.length] w fun e w' => e = .returned (.tuple #[]) ∧ ∃ L' c', Turn w w' L L' ∧ Dk w' L' N (wipS sp s) 0 c' ∧ c' ≤ c + 50000 ∧ ((∀ j, j < N → covB sp j = true → zB (s j) = true) → c' = c) := by
  refine calls_of_args [dkV L.p n, .slice (some ⟨qs, 0, none⟩) sp.length sp.length] Tryz.func38 rfl 34 Tryz.ntmps38 (by show 2 ≤ 34; decide) ?_; refine EW.seq ?_; refine EW.region ?_
  obtain ⟨w1, q, r1, b1, e1, hq⟩ := box55 L.p n w
  have h1 := h.below e1
  have s1 := hs.on e1
  have hqF : ¬ L.F q := fun hF => by have := h.lt _ hF; omega
  refine WL.box rfl rfl rfl r1 ?_; refine WL.done ?_; refine EW.on ?_; refine EW.seq ?_; refine EW.region ?_; refine WL.assign rfl rfl rfl ?_; refine WL.done ?_; refine EW.on ?_; refine EW.seq ?_; refine EW.seq ?_; refine EW.region ?_; refine WL.move rfl rfl rfl ?_; refine WL.len rfl rfl rfl (len99 _ _ _ _ _) ?_; refine WL.move rfl rfl rfl ?_; refine WL.done ?_; refine EW.on ?_; refine EW.block ?_; refine EW.loop (woE q qs sp.length) (WoR w1 L N s c sp) (fun x => sp.length - x.t) ⟨0, L, s, 0, c, false⟩ [2, 4, 8, 9, 10] rfl ⟨Turn.refl _ _, h1, Nat.zero_le _, ⟨fun j hj hv => (by obtain ⟨x, hx, _⟩ := hv; simp at hx), fun _ _ _ => rfl, fun _ => ⟨rfl, rfl⟩, fun e => (by cases e), Nat.le_refl _, Nat.le_refl _⟩⟩ ?_
  rintro ⟨t, Li, si, mi, ci, bi⟩ wi ⟨ti, di, hle, ii⟩
  simp only at ti di hle ii
  show EW _ _ _ _ [(2, .pointer (some ⟨q, 0, none⟩)), (4, .bool bi), (8, .slice (some ⟨qs, 0, none⟩) sp.length sp.length), (9, .int .i64 (sp.length : Int)), (10, .int .i64 (t : Int))] _
  refine EW.seq ?_; refine EW.region ?_
  first | refine WL.bin rfl rfl rfl rfl (int_lt_t ‹_› _ _ _) ?_ | refine WL.bin rfl rfl rfl rfl (int_lt_f ‹_› _ _ _) ?_ | refine WL.bin rfl rfl rfl rfl (int_lt_d _ _ _ _ _) ?_
  refine WL.done ?_; refine EW.on ?_; refine EW.seq ?_; refine EW.cond_d rfl (fun h11 => ?_) (fun h11 => ?_)
  · refine EW.skip ?_; refine EW.on ?_; refine EW.seq ?_; refine EW.block ?_; refine EW.seq ?_
    have ht : t < sp.length := by omega
    have tn : IntKind.i64.wrap ((t : Int) + 1) = ((t + 1 : Nat) : Int) := by rw [IntKind.wrap_i64]; omega
    obtain ⟨z, hz⟩ : ∃ z, sp[t]? = some z := ⟨_, List.getElem?_eq_getElem ht⟩
    have hzN := hsp z (List.mem_of_getElem? hz)
    refine EW.region ?_; refine WL.index rfl rfl rfl rfl (idx99 qs t sp.length ht _) ?_; refine WL.load rfl rfl rfl (ld63 (s1.fx ti.fx hsF) hz) ?_
    obtain ⟨w3, q6, r3, b3, e3, hq6⟩ := new63 wi
    refine WL.new rfl rfl r3 ?_
    obtain ⟨w4, s4, b4, x4⟩ := st63 (a := z.1) (b := z.2) b3
    have e4 : Below wi.heap.size wi w4 := e3.trans (x4.below (fun k hk e => by omega) e3.size)
    have h6F : ¬ Li.F q6 := fun hF => by have := di.lt _ hF; omega
    refine WL.store rfl rfl rfl s4 ?_; refine WL.done ?_; refine EW.on ?_; refine EW.seq ?_; refine EW.region ?_; refine WL.field rfl rfl rfl (fld63_0 q6 _) ?_; refine WL.load rfl rfl rfl (ldsp0 b4) ?_; refine WL.assign rfl rfl rfl ?_; refine WL.done ?_; refine EW.on ?_; refine EW.block ?_; refine EW.loop (wnE q qs sp.length q6 t) (WnR w4 L Li N s c sp t z) (fun x => z.2 - x.t) ⟨z.1, Li, si, mi, ci, bi⟩ [2, 4, 6, 7, 8, 9, 10] rfl ⟨Turn.refl _ _, di.below e4, Nat.le_refl _, .inl (Nat.le_refl _), ii.ext (fun j => ⟨fun h => h.elim id (fun h => absurd h.2 (by show ¬ j < z.1; omega)), .inl⟩) (by omega)⟩ ?_
    rintro ⟨i, Lj, sj, mj, cj, bjj⟩ wj ⟨tj, dj, hlo, hhi, ij⟩
    simp only at tj dj hlo hhi ij
    show EW _ _ _ _ [(2, .pointer (some ⟨q, 0, none⟩)), (4, .bool bjj), (6, .pointer (some ⟨q6, 0, none⟩)), (7, .int .i64 (i : Int)), (8, .slice (some ⟨qs, 0, none⟩) sp.length sp.length), (9, .int .i64 (sp.length : Int)), (10, .int .i64 (t : Int))] _
    refine EW.seq ?_; refine EW.seq ?_; refine EW.region ?_; refine WL.move rfl rfl rfl ?_; refine WL.field rfl rfl rfl (fld63_1 q6 _) ?_; refine WL.load rfl rfl rfl (ldsp1 (b4.fx tj.fx h6F)) ?_; refine WL.bin rfl rfl rfl rfl (int_lt_d _ _ _ _ _) ?_; refine WL.done ?_; refine EW.on ?_; refine EW.cond_d rfl (fun h19 => ?_) (fun h19 => ?_)
    · refine EW.skip ?_; refine EW.on ?_; refine EW.seq ?_; refine EW.block ?_; refine EW.seq ?_
      have hiN : i < N := by omega
      have tn7 : IntKind.i64.wrap ((i : Int) + 1) = ((i + 1 : Nat) : Int) := by rw [IntKind.wrap_i64]; omega
      have bj := (b1.fx ti.fx hqF).on e4 |>.fx tj.fx (fun hF => (ti.own q hF).elim hqF (fun hh => by have := b1.lt; omega))
      refine EW.region ?_; refine WL.load rfl rfl rfl (ld55 bj) ?_; refine WL.move rfl rfl rfl ?_; refine WL.call [dkV L.p n, .int .i64 (i : Int)] enter33 rfl rfl rfl (by rw [← ti.p, ← tj.p]; exact kread_ok n dj i hiN) ?_
      rintro _ w5 ⟨u5, rfl, hu5, e5, _⟩
      refine ⟨_, rfl, ?_⟩; refine WL.call [u5] enter61 rfl rfl rfl (zeros_any _ _ w5 hu5 (by rw [dj.len i hiN]; decide)) ?_
      rintro _ w6 ⟨rfl, hz6⟩
      rw [hz6]
      have d5 := dj.below e5
      refine ⟨_, rfl, ?_⟩; refine WL.un rfl rfl rfl (not_t _ _) ?_; refine WL.done ?_; refine EW.on ?_; refine EW.cond_b rfl (fun hc => ?_) (fun hc => ?_)
      · have hz26 : ¬ zB (sj i) = true := by simpa using hc
        refine EW.seq ?_; refine EW.region ?_; refine WL.load rfl rfl rfl (ld55 (bj.on e5)) ?_; refine WL.move rfl rfl rfl ?_; refine WL.call [dkV L.p n, .int .i64 (i : Int)] enter66 rfl rfl rfl (by rw [← ti.p, ← tj.p]; exact blank_ok n d5 i hiN (by have := ij.mm; omega) (by have := ij.cc; omega)) ?_
        rintro _ w7 ⟨rfl, L7, t7, d7⟩
        refine ⟨_, rfl, ?_⟩; refine WL.done ?_; refine EW.on ?_; refine EW.region ?_; refine WL.assign rfl rfl rfl ?_; refine WL.done ?_; refine pn_block ?_; refine EW.on ?_; refine EW.region ?_; refine WL.move rfl rfl rfl ?_; refine WL.bin rfl rfl rfl rfl (int_add ‹_› _ _ _) ?_; refine WL.assign rfl rfl rfl ?_; refine WL.done ?_; refine EW.again (E := wnE q qs sp.length q6 t) (R := WnR w4 L Li N s c sp t z) (m := fun x => z.2 - x.t) (x := ⟨i, Lj, sj, mj, cj, bjj⟩) ⟨i + 1, L7, setS sj i zS, mj + 1, cj + 1, true⟩ [2, 4, 6, 7, 8, 9, 10] rfl ⟨tj.trans (t7.pre e5), d7, by show z.1 ≤ i + 1; omega, .inr (by show i + 1 ≤ z.2; omega), (ij.wiped i hiN hz26 (fun j => step_iff hlo j)).ext (fun _ => Iff.rfl) (by show _ ≤ 10000 * t + (i + 1 - z.1); omega)⟩ (by show z.2 - (i + 1) < z.2 - i; omega)
      · have hz26 : zB (sj i) = true := by simpa using hc
        refine EW.skip ?_; refine pn_block ?_; refine EW.on ?_; refine EW.region ?_; refine WL.move rfl rfl rfl ?_; refine WL.bin rfl rfl rfl rfl (int_add ‹_› _ _ _) ?_; refine WL.assign rfl rfl rfl ?_; refine WL.done ?_; refine EW.again (E := wnE q qs sp.length q6 t) (R := WnR w4 L Li N s c sp t z) (m := fun x => z.2 - x.t) (x := ⟨i, Lj, sj, mj, cj, bjj⟩) ⟨i + 1, Lj, sj, mj, cj, bjj⟩ [2, 4, 6, 7, 8, 9, 10] rfl ⟨tj.trans ((Turn.refl _ _).pre e5), d5, by show z.1 ≤ i + 1; omega, .inr (by show i + 1 ≤ z.2; omega), (ij.same i (fun hj => dj.len i hj) hz26 (fun j => step_iff hlo j)).ext (fun _ => Iff.rfl) (by show _ ≤ 10000 * t + (i + 1 - z.1); omega)⟩ (by show z.2 - (i + 1) < z.2 - i; omega)
    · refine EW.exit ?_; refine px_then ?_; refine px_then ?_; refine px_block ?_; refine pn_block ?_; refine EW.on ?_; refine EW.region ?_; refine WL.bin rfl rfl rfl rfl (int_add ‹_› _ _ _) ?_; refine WL.move rfl rfl rfl ?_; refine WL.done ?_; refine EW.again (E := woE q qs sp.length) (R := WoR w1 L N s c sp) (m := fun x => sp.length - x.t) (x := ⟨t, Li, si, mi, ci, bi⟩) ⟨t + 1, Lj, sj, mj, cj, bjj⟩ [2, 4, 8, 9, 10] rfl ⟨ti.trans (tj.pre e4), dj, by show t + 1 ≤ sp.length; omega, ij.ext (fun j => by rw [vis_snoc hz j]; exact or_congr Iff.rfl (and_congr_right fun _ => by omega)) (by show _ ≤ 10000 * (t + 1); omega)⟩ (by show sp.length - (t + 1) < sp.length - t; omega)
  · refine EW.exit ?_; refine px_then ?_; refine px_then ?_; refine px_block ?_; refine EW.on ?_; refine EW.seq ?_; refine EW.region ?_; refine WL.move rfl rfl rfl ?_; refine WL.done ?_; refine EW.on ?_; refine EW.cond_b rfl (fun hc => ?_) (fun hc => ?_)
    · refine EW.region ?_; refine WL.load rfl rfl rfl (ld55 (b1.fx ti.fx hqF)) ?_; refine WL.call [dkV L.p n] enter57 rfl rfl rfl (by rw [← ti.p]; exact kflush_ok n di (by have := ii.cc; omega)) ?_
      rintro _ w8 ⟨rfl, L8, t8, d8⟩
      refine ⟨_, rfl, ?_⟩; refine WL.done ?_
      exact EW.falls Tryz.results38 ⟨rfl, L8, ci + 1, (ti.trans t8).pre e1, d8.congr (fun j hj => wip_is ii (by omega) j hj), by have := ii.cc; omega, fun hall => (by obtain ⟨j, g1, g2, g3⟩ := ii.y hc; rw [hall j g1 ((vis_all (by omega) j).1 g2)] at g3; cases g3)⟩
    · refine EW.skip ?_
      exact EW.falls Tryz.results38 ⟨rfl, Li, ci, ti.pre e1, (by have := (ii.f hc).1; subst this; exact di.congr (fun j hj => wip_is ii (by omega) j hj)), by have := ii.cc; omega, fun _ => (ii.f hc).2⟩
end Go.Proofs.YtmbgeojjklboeaaGreatDoor
