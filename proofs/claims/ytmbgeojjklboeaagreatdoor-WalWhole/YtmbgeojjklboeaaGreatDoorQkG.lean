import Derived.Test.YtmbgeojjklboeaaGreatDoorZo
import Derived.Test.YtmbgeojjklboeaaGreatDoorYfG
import Derived.Test.YtmbgeojjklboeaaGreatDoorZmG
set_option linter.unusedVariables false
set_option linter.unusedSimpArgs false
namespace Go.Proofs.YtmbgeojjklboeaaGreatDoor
open Go.RowKit

/-- The disk behind a call: the log is zeros, the homes are the pages, the rest is zeros. -/
structure Dst (p more : Nat) (s : Nat → List UInt8) (ps : List (List UInt8)) : Prop where
  log : ∀ j, j < 1 + 2 * p → s j = zS
  hom : ∀ (i : Nat) (x : List UInt8), ps[i]? = some x → x = s (1 + 2 * (p + i)) ++ s (1 + 2 * (p + i) + 1)
  rst : ∀ j, 4 * p + 1 ≤ j → j < 4 * p + 1 + more → s j = zS
  len : ps.length = p
theorem Dst.img {p more : Nat} {s : Nat → List UInt8} {ps : List (List UInt8)} (h : Dst p more s ps) : imgS (4 * p + 1 + more) s = zerL (512 * (1 + 2 * p)) ++ ps.flatten ++ zerL (512 * more) := by
  rw [img_parts p more s, imgS_zero s (1 + 2 * p) h.log]
  have e1 : (List.range p).map (fun n => s (1 + 2 * (p + n)) ++ s (1 + 2 * (p + n) + 1)) = ps := by
    apply List.ext_getElem?
    intro i
    rcases Nat.lt_or_ge i p with hi | hi
    · rw [List.getElem?_map, List.getElem?_range hi, Option.map_some]
      have hx : ps[i]? = some (ps[i]'(by rw [h.len]; exact hi)) := List.getElem?_eq_getElem _
      rw [hx, h.hom i _ hx]
    · rw [List.getElem?_eq_none (by simp; omega), List.getElem?_eq_none (by rw [h.len]; omega)]
  rw [e1]
  congr 1
  exact imgS_zero (fun i => s (1 + 4 * p + i)) more (fun i hi => h.rst _ (by omega) (by omega))
theorem Dst.zero (p more : Nat) : Dst p more (fun _ => zS) (List.replicate p (zerL 1024)) :=
  ⟨fun _ _ => rfl, fun i x hx => by
    have := List.mem_of_getElem? hx
    rw [List.eq_of_mem_replicate this]
    show zerL 1024 = zS ++ zS
    unfold zerL zS
    rw [List.replicate_append_replicate], fun _ _ _ => rfl, List.length_replicate⟩
theorem pg2_other (s : Nat → List UInt8) (i j : Nat) (b : List UInt8) (h1 : j ≠ i) (h2 : j ≠ i + 1) : pg2 s i b j = s j := by
  unfold pg2 setS
  rw [if_neg h2, if_neg h1]
theorem pg2_fst (s : Nat → List UInt8) (i : Nat) (b : List UInt8) : pg2 s i b i = b.take 512 := by
  unfold pg2 setS
  rw [if_neg (by omega), if_pos rfl]
theorem pg2_snd (s : Nat → List UInt8) (i : Nat) (b : List UInt8) : pg2 s i b (i + 1) = b.drop 512 := by
  unfold pg2 setS
  rw [if_pos rfl]
theorem fold_other (f : Nat → Nat) (j : Nat) : ∀ (l : List Pw) (s : Nat → List UInt8), (∀ x ∈ l, j ≠ f x.n ∧ j ≠ f x.n + 1) → (l.foldl (fun s x => pg2 s (f x.n) x.b) s) j = s j
  | [], s, _ => rfl
  | x :: r, s, h => by
    rw [List.foldl_cons, fold_other f j r _ (fun y hy => h y (List.mem_cons_of_mem _ hy)), pg2_other _ _ _ _ (h x (List.mem_cons_self ..)).1 (h x (List.mem_cons_self ..)).2]
theorem fold_at (f : Nat → Nat) (hf : ∀ a b, a ≠ b → f a ≠ f b ∧ f a ≠ f b + 1 ∧ f a + 1 ≠ f b) : ∀ (l : List Pw) (s : Nat → List UInt8), (l.map Pw.n).Nodup → ∀ x ∈ l, (l.foldl (fun s x => pg2 s (f x.n) x.b) s) (f x.n) = x.b.take 512 ∧ (l.foldl (fun s x => pg2 s (f x.n) x.b) s) (f x.n + 1) = x.b.drop 512
  | [], s, _, x, hx => by cases hx
  | y :: r, s, hn, x, hx => by
    rw [List.map_cons, List.nodup_cons] at hn
    rcases List.mem_cons.1 hx with rfl | hr
    · have ho : ∀ z ∈ r, x.n ≠ z.n := fun z hz e => hn.1 (e ▸ List.mem_map_of_mem hz)
      rw [List.foldl_cons, fold_other f _ r _ (fun z hz => ⟨(hf _ _ (ho z hz)).1, (hf _ _ (ho z hz)).2.1⟩), fold_other f _ r _ (fun z hz => ⟨(hf _ _ (ho z hz)).2.2, fun e => (hf _ _ (ho z hz)).1 (by omega)⟩), pg2_fst, pg2_snd]
      exact ⟨rfl, rfl⟩
    · rw [List.foldl_cons]
      exact fold_at f hf r _ hn.2 x hr
theorem bl_zero (j : Nat) : ∀ (l : List Pw) (s : Nat → List UInt8), (s j = zS ∨ ∃ x ∈ l, j = 1 + 2 * x.n ∨ j = 1 + 2 * x.n + 1) → (l.foldl bl1 s) j = zS
  | [], s, h => by
    rcases h with h | ⟨x, hx, _⟩
    · exact h
    · cases hx
  | y :: r, s, h => by
    rw [List.foldl_cons]
    refine bl_zero j r _ ?_
    by_cases e : j = 1 + 2 * y.n ∨ j = 1 + 2 * y.n + 1
    · left
      unfold bl1 setS
      rcases e with e | e
      · rw [if_neg (by omega), if_pos e]
      · rw [if_pos e]
    · rcases h with h | ⟨x, hx, hj⟩
      · left
        unfold bl1 setS
        rw [if_neg (fun h => e (.inr h)), if_neg (fun h => e (.inl h))]
        exact h
      · rcases List.mem_cons.1 hx with rfl | hr
        · exact absurd hj e
        · exact .inr ⟨x, hr, hj⟩
theorem bl_other (j : Nat) : ∀ (l : List Pw) (s : Nat → List UInt8), (∀ x ∈ l, j ≠ 1 + 2 * x.n ∧ j ≠ 1 + 2 * x.n + 1) → (l.foldl bl1 s) j = s j
  | [], s, _ => rfl
  | y :: r, s, h => by
    rw [List.foldl_cons, bl_other j r _ (fun x hx => h x (List.mem_cons_of_mem _ hx))]
    have hy := h y (List.mem_cons_self ..)
    unfold bl1 setS
    rw [if_neg hy.2, if_neg hy.1]
/-- A commit of pages, in whatever order: sector by sector. -/
theorem ch_log {p : Nat} {s : Nat → List UInt8} {l : List Pw} (hl : ∀ x ∈ l, x.n < p) (hz : ∀ j, j < 1 + 2 * p → s j = zS) (j : Nat) (hj : j < 1 + 2 * p) : chS p s l j = zS := by
  unfold chS
  refine bl_zero j l _ ?_
  by_cases h0 : j = 0
  · left
    subst h0
    unfold setS
    rw [if_pos rfl]
  · by_cases h : ∃ x ∈ l, j = 1 + 2 * x.n ∨ j = 1 + 2 * x.n + 1
    · exact .inr h
    · left
      have h' : ∀ x ∈ l, j ≠ 1 + 2 * x.n ∧ j ≠ 1 + 2 * x.n + 1 := fun x hx => ⟨fun e => h ⟨x, hx, .inl e⟩, fun e => h ⟨x, hx, .inr e⟩⟩
      have e1 : ∀ (u : Nat → List UInt8) (b : List UInt8), setS u 0 b j = u j := fun u b => by unfold setS; rw [if_neg h0]
      rw [e1, e1]
      have := fold_other (fun n => 1 + 2 * (p + n)) j l (setS (l.foldl sl1 s) 0 (mkB l)) (fun x hx => ⟨by omega, by omega⟩)
      have e2 : l.foldl (hm1 p) (setS (l.foldl sl1 s) 0 (mkB l)) j = setS (l.foldl sl1 s) 0 (mkB l) j := this
      rw [e2, e1]
      have e3 : l.foldl sl1 s j = s j := fold_other (fun n => 1 + 2 * n) j l s h'
      rw [e3]
      exact hz j hj
theorem ch_far {p : Nat} {s : Nat → List UInt8} {l : List Pw} (hl : ∀ x ∈ l, x.n < p) (j : Nat) (hj : 1 + 2 * p ≤ j) (hh : ∀ x ∈ l, j ≠ 1 + 2 * (p + x.n) ∧ j ≠ 1 + 2 * (p + x.n) + 1) : chS p s l j = s j := by
  have e1 : ∀ (u : Nat → List UInt8) (b : List UInt8), setS u 0 b j = u j := fun u b => by unfold setS; rw [if_neg (by omega)]
  unfold chS
  rw [bl_other j l _ (fun x hx => by have := hl x hx; exact ⟨by omega, by omega⟩), e1, e1]
  have e2 : l.foldl (hm1 p) (setS (l.foldl sl1 s) 0 (mkB l)) j = setS (l.foldl sl1 s) 0 (mkB l) j := fold_other (fun n => 1 + 2 * (p + n)) j l _ hh
  rw [e2, e1]
  exact fold_other (fun n => 1 + 2 * n) j l s (fun x hx => by have := hl x hx; exact ⟨by omega, by omega⟩)
theorem ch_home {p : Nat} {s : Nat → List UInt8} {l : List Pw} (hl : ∀ x ∈ l, x.n < p) (hd : (l.map Pw.n).Nodup) (x : Pw) (hx : x ∈ l) : chS p s l (1 + 2 * (p + x.n)) = x.b.take 512 ∧ chS p s l (1 + 2 * (p + x.n) + 1) = x.b.drop 512 := by
  have e1 : ∀ (u : Nat → List UInt8) (b : List UInt8) (j : Nat), j ≠ 0 → setS u 0 b j = u j := fun u b j hj => by unfold setS; rw [if_neg hj]
  have h := fold_at (fun n => 1 + 2 * (p + n)) (fun a b h => ⟨by omega, by omega, by omega⟩) l (setS (l.foldl sl1 s) 0 (mkB l)) hd x hx
  unfold chS
  rw [bl_other _ l _ (fun y hy => by have := hl y hy; exact ⟨by omega, by omega⟩), e1 _ _ _ (by omega), e1 _ _ _ (by omega), bl_other _ l _ (fun y hy => by have := hl y hy; exact ⟨by omega, by omega⟩), e1 _ _ _ (by omega), e1 _ _ _ (by omega)]
  exact h
theorem aftL_out (i : Nat) : ∀ (acc : List (Nat × UInt8)) (ps : List (List UInt8)), i ∉ acc.map Prod.fst → (aftL ps acc)[i]? = ps[i]?
  | [], ps, _ => rfl
  | a :: r, ps, h => by
    rw [List.map_cons, List.mem_cons, not_or] at h
    show (aftL (ps.set a.1 (pgB a.1 a.2)) r)[i]? = _
    rw [aftL_out i r _ h.2, List.getElem?_set_ne (fun e => h.1 e.symm)]
theorem aftL_in : ∀ (acc : List (Nat × UInt8)) (ps : List (List UInt8)), (acc.map Prod.fst).Nodup → ∀ a ∈ acc, a.1 < ps.length → (aftL ps acc)[a.1]? = some (pgB a.1 a.2)
  | [], ps, _, a, ha, _ => by cases ha
  | b :: r, ps, hn, a, ha, hl => by
    rw [List.map_cons, List.nodup_cons] at hn
    show (aftL (ps.set b.1 (pgB b.1 b.2)) r)[a.1]? = _
    rcases List.mem_cons.1 ha with rfl | hr
    · rw [aftL_out a.1 r _ hn.1, List.getElem?_set_self hl]
    · exact aftL_in r _ hn.2 a hr (by rw [List.length_set]; exact hl)
theorem wantP_nodup (p : Nat) (gs : List Gp) : ((wantP p gs).map Prod.fst).Nodup := by
  have : ∀ (gs : List Gp) (acc : List (Nat × UInt8)), (acc.map Prod.fst).Nodup → ((gs.foldl (wStep p) acc).map Prod.fst).Nodup := fun gs => by
    induction gs with
    | nil => intro acc h; exact h
    | cons g r ih => intro acc h; exact ih _ (wStep_nodup p acc g h)
  exact this gs [] (by simp)
theorem wantP_lt (p : Nat) (hp : 0 < p) (gs : List Gp) : ∀ a ∈ wantP p gs, a.1 < p := by
  have : ∀ (gs : List Gp) (acc : List (Nat × UInt8)), (∀ a ∈ acc, a.1 < p) → ∀ a ∈ gs.foldl (wStep p) acc, a.1 < p := fun gs => by
    induction gs with
    | nil => intro acc h; exact h
    | cons g r ih => intro acc h; exact ih _ (wStep_lt p hp acc g h)
  exact this gs [] (fun a ha => by cases ha)
/-- The disk behind a commit. -/
theorem Dst.commit {p more : Nat} {s : Nat → List UInt8} {ps : List (List UInt8)} (h : Dst p more s ps) {acc : List (Nat × UInt8)} (hn : (acc.map Prod.fst).Nodup) (hlt : ∀ a ∈ acc, a.1 < p) {lo l : List Pw} (he : lo.map (fun z => (z.n, z.b)) = acc.map (fun a => (a.1, pgB a.1 a.2))) (hl : l.Perm lo) : (∀ x ∈ l, x.n < p) ∧ (l.map Pw.n).Nodup ∧ Dst p more (chS p s l) (aftL ps acc) := by
  have e1 : lo.map Pw.n = acc.map Prod.fst := by
    have := congrArg (List.map Prod.fst) he
    rw [List.map_map, List.map_map] at this
    exact this
  have hm : ∀ x ∈ l, ∃ a ∈ acc, x.n = a.1 ∧ x.b = pgB a.1 a.2 := fun x hx => by
    have : (x.n, x.b) ∈ acc.map (fun a => (a.1, pgB a.1 a.2)) := he ▸ List.mem_map_of_mem (f := fun z : Pw => (z.n, z.b)) (hl.subset hx)
    obtain ⟨a, ha, e⟩ := List.mem_map.1 this
    simp only [Prod.mk.injEq] at e
    exact ⟨a, ha, e.1.symm, e.2.symm⟩
  have hm2 : ∀ a ∈ acc, ∃ x ∈ l, x.n = a.1 ∧ x.b = pgB a.1 a.2 := fun a ha => by
    have : (a.1, pgB a.1 a.2) ∈ lo.map (fun z => (z.n, z.b)) := he ▸ List.mem_map_of_mem (f := fun a : Nat × UInt8 => (a.1, pgB a.1 a.2)) ha
    obtain ⟨x, hx, e⟩ := List.mem_map.1 this
    simp only [Prod.mk.injEq] at e
    exact ⟨x, hl.symm.subset hx, e.1, e.2⟩
  have hxl : ∀ x ∈ l, x.n < p := fun x hx => by
    obtain ⟨a, ha, e, _⟩ := hm x hx
    rw [e]; exact hlt a ha
  have hnd : (l.map Pw.n).Nodup := by
    have := (hl.map Pw.n).nodup_iff.2 (e1 ▸ hn)
    exact this
  refine ⟨hxl, hnd, fun j hj => ch_log hxl h.log j hj, fun i x hx => ?_, fun j h1 h2 => ?_, by rw [aftL_len]; exact h.len⟩
  · have hip : i < p := by
      have := (List.getElem?_eq_some_iff.1 hx).1
      rw [aftL_len, h.len] at this
      exact this
    by_cases hi : i ∈ acc.map Prod.fst
    · obtain ⟨a, ha, rfl⟩ := List.mem_map.1 hi
      rw [aftL_in acc ps hn a ha (by rw [h.len]; exact hip)] at hx
      obtain ⟨y, hy, y1, y2⟩ := hm2 a ha
      obtain ⟨c1, c2⟩ := ch_home (s := s) hxl hnd y hy
      rw [y1] at c1 c2
      rw [c1, c2, y2, List.take_append_drop]
      exact (Option.some.inj hx).symm
    · rw [aftL_out i acc ps hi] at hx
      have hh : ∀ y ∈ l, y.n ≠ i := fun y hy e => by
        obtain ⟨a, ha, e2, _⟩ := hm y hy
        exact hi (List.mem_map.2 ⟨a, ha, by omega⟩)
      rw [ch_far hxl _ (by omega) (fun y hy => by have := hh y hy; exact ⟨by omega, by omega⟩), ch_far hxl _ (by omega) (fun y hy => by have := hh y hy; exact ⟨by omega, by omega⟩)]
      exact h.hom i x hx
  · rw [ch_far hxl j (by omega) (fun y hy => by have := hxl y hy; exact ⟨by omega, by omega⟩)]
    exact h.rst j h1 h2
end Go.Proofs.YtmbgeojjklboeaaGreatDoor

set_option linter.unusedVariables false
set_option linter.unusedSimpArgs false
namespace Go.Proofs.YtmbgeojjklboeaaGreatDoor
open Go.RowKit

theorem bit_iff (x j : Nat) : x / 2 ^ j % 2 = 1 ↔ x.testBit j = true := by
  rw [Nat.testBit_eq_decide_div_mod_eq]
  simp
theorem bAt_setI {m : List UInt8} {i k : Nat} {u : UInt8} (hi : i < m.length) : bAt (m.set i u) k = if k = i then u.toNat else bAt m k := by
  unfold bAt
  rw [List.getD_eq_getElem?_getD, List.getElem?_set]
  by_cases h : i = k
  · subst h
    simp [hi]
  · rw [if_neg h, if_neg (fun e => h e.symm), List.getD_eq_getElem?_getD]
theorem pow_u8 {k : Nat} (h : k < 8) : (UInt8.ofNat (2 ^ k)).toNat = 2 ^ k := by
  have : 2 ^ k < 256 := Nat.lt_of_lt_of_le (Nat.pow_lt_pow_right (by decide) h) (by decide)
  rw [UInt8.toNat_ofNat', Nat.mod_eq_of_lt (by omega)]
theorem mk1_at {m : List UInt8} {x : Pw} (hx : x.n / 8 < m.length) (k : Nat) : bAt (mk1 m x) k = if k = x.n / 8 then bAt m k ||| 2 ^ (x.n % 8) else bAt m k := by
  unfold mk1
  rw [bAt_setI hx]
  by_cases h : k = x.n / 8
  · rw [if_pos h, if_pos h, UInt8.toNat_or, pow_u8 (by omega), h]
    rfl
  · rw [if_neg h, if_neg h]
theorem fold_bits : ∀ (l : List Pw) (m : List UInt8), m.length = 512 → (∀ x ∈ l, x.n < 256) → (∀ n, n < 256 → ((bAt (l.foldl mk1 m) (n / 8)).testBit (n % 8) = true ↔ ((bAt m (n / 8)).testBit (n % 8) = true ∨ ∃ x ∈ l, x.n = n))) ∧ ∀ k, 32 ≤ k → bAt (l.foldl mk1 m) k = bAt m k
  | [], m, _, _ => ⟨fun n _ => by simp, fun _ _ => rfl⟩
  | a :: r, m, hm, hl => by
    have ha := hl a List.mem_cons_self
    obtain ⟨h1, h2⟩ := fold_bits r (mk1 m a) (by unfold mk1; rw [List.length_set]; exact hm) (fun x hx => hl x (List.mem_cons_of_mem _ hx))
    refine ⟨fun n hn => ?_, fun k hk => ?_⟩
    · rw [List.foldl_cons, h1 n hn, mk1_at (by omega)]
      by_cases h : n / 8 = a.n / 8
      · rw [if_pos h, Nat.testBit_or, Bool.or_eq_true, Nat.testBit_two_pow]
        simp only [decide_eq_true_eq, List.mem_cons, exists_eq_or_imp]
        constructor
        · rintro ((h3 | h3) | h3)
          · exact .inl h3
          · exact .inr (.inl (by omega))
          · exact .inr (.inr h3)
        · rintro (h3 | h3 | h3)
          · exact .inl (.inl h3)
          · exact .inl (.inr (by omega))
          · exact .inr h3
      · rw [if_neg h]
        simp only [List.mem_cons, exists_eq_or_imp]
        constructor
        · rintro (h3 | h3)
          · exact .inl h3
          · exact .inr (.inr h3)
        · rintro (h3 | h3 | h3)
          · exact .inl h3
          · omega
          · exact .inr h3
    · rw [List.foldl_cons, h2 k hk, mk1_at (by omega), if_neg (by omega)]
theorem bAt_zS (k : Nat) : bAt zS k = 0 := by
  unfold bAt zS
  rw [List.getD_eq_getElem?_getD]
  by_cases h : k < 512
  · rw [List.getElem?_replicate, if_pos h]; rfl
  · rw [List.getElem?_replicate, if_neg h]; rfl
theorem mkB_len (l : List Pw) : (mkB l).length = 512 := by unfold mkB; rw [List.length_set, mkT_len]
theorem mkB_last (l : List Pw) : bAt (mkB l) 511 = 1 := by
  unfold mkB
  rw [bAt_setI (by rw [mkT_len]; decide), if_pos rfl]; rfl
theorem mem_mk {l : List Pw} (hl : ∀ x ∈ l, x.n < 256) (n : Nat) : n ∈ numsT (mkB l) 256 ↔ ∃ x ∈ l, x.n = n := by
  unfold numsT bitB
  rw [List.mem_filter, List.mem_range, decide_eq_true_eq, bit_iff]
  have h1 := (fold_bits l zS zS_len hl).1
  have e : ∀ k, k < 256 → bAt (mkB l) (k / 8) = bAt (l.foldl mk1 zS) (k / 8) := fun k hk => by
    unfold mkB mkT
    rw [bAt_setI (by rw [show l.foldl mk1 zS = mkT l from rfl, mkT_len]; decide), if_neg (by omega)]
  constructor
  · rintro ⟨hn, hb⟩
    rw [e n hn, h1 n hn, bAt_zS] at hb
    rcases hb with hb | hb
    · simp at hb
    · exact hb
  · intro hx
    obtain ⟨x, hx, rfl⟩ := hx
    have hn := hl x hx
    refine ⟨hn, ?_⟩
    rw [e _ hn, h1 _ hn]
    exact .inr ⟨x, hx, rfl⟩
theorem mk_mid {l : List Pw} (hl : ∀ x ∈ l, x.n < 256) : zB (((mkB l).drop 32).take (511 - 32)) = true := by
  refine zB_of _ fun j hj => ?_
  have hj' : j < 479 := by simp at hj; omega
  have e1 : bAt (((mkB l).drop 32).take (511 - 32)) j = bAt (mkB l) (32 + j) := by
    unfold bAt
    rw [List.getD_eq_getElem?_getD, List.getElem?_take_of_lt (by omega), List.getElem?_drop, List.getD_eq_getElem?_getD]
  rw [e1]
  unfold mkB mkT
  rw [bAt_setI (by rw [show l.foldl mk1 zS = mkT l from rfl, mkT_len]; decide), if_neg (by omega), (fold_bits l zS zS_len hl).2 _ (by omega), bAt_zS]
/-- Torn sectors. -/
theorem tn_last {a b x : List UInt8} (ha : a.length = 512) (hb : b.length = 512) (h : Tn a b x) : x = a ∨ bAt x 511 = bAt b 511 := by
  obtain ⟨k, hk, rfl⟩ := h
  by_cases h5 : k = 512
  · left
    rw [h5, List.take_of_length_le (by omega)]
    rw [List.drop_eq_nil_of_le (by omega), List.append_nil]
  · right
    unfold bAt
    rw [List.getD_eq_getElem?_getD, List.getElem?_append_right (by simp; omega), List.getElem?_drop, List.length_take, List.getD_eq_getElem?_getD]
    congr 4
    omega
end Go.Proofs.YtmbgeojjklboeaaGreatDoor

set_option linter.unusedVariables false
set_option linter.unusedSimpArgs false
namespace Go.Proofs.YtmbgeojjklboeaaGreatDoor
open Go.RowKit

/-- What an image that stands for pages has anyhow. -/
structure Sta (p more : Nat) (d : Nat → List UInt8) (ps : List (List UInt8)) : Prop where
  len : ∀ i, i < 4 * p + 1 + more → (d i).length = 512
  rst : ∀ j, 4 * p + 1 ≤ j → j < 4 * p + 1 + more → d j = zS
  pl : ps.length = p
/-- The image stands for these pages: nothing is to be done again, or what a standing marker says. -/
inductive St (p more : Nat) (d : Nat → List UInt8) (ps : List (List UInt8)) : Prop
  | n (c : Sta p more d ps) (h0 : bAt (d 0) 511 = 0) (hom : ∀ (i : Nat) (x : List UInt8), ps[i]? = some x → x = d (1 + 2 * (p + i)) ++ d (1 + 2 * (p + i) + 1)) : St p more d ps
  | y (c : Sta p more d ps) (l : List Pw) (h0 : d 0 = mkB l) (hne : l ≠ []) (hl : ∀ x ∈ l, x.n < p) (sl : ∀ x ∈ l, ps[x.n]? = some (d (1 + 2 * x.n) ++ d (1 + 2 * x.n + 1))) (hom : ∀ (i : Nat) (x : List UInt8), i ∉ l.map Pw.n → ps[i]? = some x → x = d (1 + 2 * (p + i)) ++ d (1 + 2 * (p + i) + 1)) : St p more d ps
theorem tn_off {m x : List UInt8} (hm : m.length = 512) (h : Tn (m.set 511 0) m x) : x = m.set 511 0 ∨ x = m := by
  obtain ⟨k, hk, rfl⟩ := h
  by_cases h5 : k = 512
  · left
    rw [h5, List.take_of_length_le (by simp; omega), List.drop_eq_nil_of_le (by omega), List.append_nil]
  · right
    rw [List.take_set_of_le (by omega), List.take_append_drop]
theorem off_last (m : List UInt8) (hm : m.length = 512) : bAt (m.set 511 0) 511 = 0 := by
  rw [bAt_setI (by omega), if_pos rfl]; rfl
theorem homT_at (p : Nat) : ∀ (l : List Nat) (s : Nat → List UInt8), (∀ x ∈ l, x < p) → l.Nodup → ∀ x ∈ l, homT p s l (1 + 2 * (p + x)) = s (1 + 2 * x) ∧ homT p s l (1 + 2 * (p + x) + 1) = s (1 + 2 * x + 1)
  | [], _, _, _, x, hx => by cases hx
  | a :: r, s, hl, hd, x, hx => by
    rw [List.nodup_cons] at hd
    have ha := hl a List.mem_cons_self
    have hs : ∀ j, j < 1 + 2 * p → hom1 p s a j = s j := fun j hj => by
      unfold hom1
      rw [setS_ne _ _ (by omega), setS_ne _ _ (by omega)]
    show homT p (hom1 p s a) r (1 + 2 * (p + x)) = _ ∧ homT p (hom1 p s a) r (1 + 2 * (p + x) + 1) = _
    rcases List.mem_cons.1 hx with rfl | hx
    · rw [homT_other p _ r _ (fun ⟨y, hy, e⟩ => hd.1 (by
        have : x = y := by dsimp only [gH] at e; omega
        rw [this]; exact hy)), homT_other p _ r _ (fun ⟨y, hy, e⟩ => hd.1 (by
        have : x = y := by dsimp only [gH] at e; omega
        rw [this]; exact hy))]
      unfold hom1
      exact ⟨by rw [setS_ne _ _ (by omega), setS_eq], by rw [setS_eq]⟩
    · have hxp := hl x (List.mem_cons_of_mem _ hx)
      have := homT_at p r (hom1 p s a) (fun y hy => hl y (List.mem_cons_of_mem _ hy)) hd.2 x hx
      rw [hs _ (by omega), hs _ (by omega)] at this
      exact this
theorem homT_lo (p : Nat) (l : List Nat) (s : Nat → List UInt8) (j : Nat) (hj : j < 1 + 2 * p) : homT p s l j = s j := homT_other p j l s (fun ⟨x, _, e⟩ => by dsimp only [gH] at e; omega)
theorem homT_far (p : Nat) (l : List Nat) (s : Nat → List UInt8) (hl : ∀ x ∈ l, x < p) (j : Nat) (hj : 4 * p + 1 ≤ j) : homT p s l j = s j := homT_other p j l s (fun ⟨x, hx, e⟩ => by have := hl x hx; dsimp only [gH] at e; omega)
theorem us_home {p i : Nat} {l : List Nat} (h : UsN (gH p) l (1 + 2 * (p + i))) : i ∈ l := by
  obtain ⟨x, hx, e⟩ := h
  dsimp only [gH] at e
  rw [show i = x by omega]
  exact hx
theorem us_home1 {p i : Nat} {l : List Nat} (h : UsN (gH p) l (1 + 2 * (p + i) + 1)) : i ∈ l := by
  obtain ⟨x, hx, e⟩ := h
  dsimp only [gH] at e
  rw [show i = x by omega]
  exact hx
theorem homT_no (p : Nat) (l : List Nat) (s : Nat → List UInt8) (i : Nat) (hi : i ∉ l) : homT p s l (1 + 2 * (p + i)) = s (1 + 2 * (p + i)) ∧ homT p s l (1 + 2 * (p + i) + 1) = s (1 + 2 * (p + i) + 1) :=
  ⟨homT_other p _ l s (fun h => hi (us_home h)), homT_other p _ l s (fun h => hi (us_home1 h))⟩
theorem wip_cov (e j : Nat) (s : Nat → List UInt8) : wipS [(0, e)] s j = if j < e then zS else s j := by
  unfold wipS
  have hcov : covB [(0, e)] j = decide (j < e) := by simp [covB]
  rw [hcov]
  by_cases h : j < e
  · rw [if_pos (by simpa using h), if_pos h]
  · rw [if_neg (by simpa using h), if_neg h]
/-- An image that holds its pages at home, wiped. -/
theorem dst_wip {p more : Nat} {d : Nat → List UInt8} {ps : List (List UInt8)} (hr : ∀ j, 4 * p + 1 ≤ j → j < 4 * p + 1 + more → d j = zS) (hom : ∀ (i : Nat) (x : List UInt8), ps[i]? = some x → x = d (1 + 2 * (p + i)) ++ d (1 + 2 * (p + i) + 1)) (hl : ps.length = p) : Dst p more (wipS [(0, 1 + 2 * p)] d) ps :=
  ⟨fun j hj => by rw [wip_cov, if_pos hj], fun i x hx => by rw [wip_cov, if_neg (by omega), wip_cov, if_neg (by omega)]; exact hom i x hx, fun j h1 h2 => by rw [wip_cov, if_neg (by omega)]; exact hr j h1 h2, hl⟩
section
variable {p more : Nat} {d d' : Nat → List UInt8} {ps : List (List UInt8)}
/-- The pages at home behind a repetition. -/
theorem rep_hom (hp : p ≤ 20) (l : List Pw) (h0 : d 0 = mkB l) (hl : ∀ x ∈ l, x.n < p) (sl : ∀ x ∈ l, ps[x.n]? = some (d (1 + 2 * x.n) ++ d (1 + 2 * x.n + 1))) (hom : ∀ (i : Nat) (x : List UInt8), i ∉ l.map Pw.n → ps[i]? = some x → x = d (1 + 2 * (p + i)) ++ d (1 + 2 * (p + i) + 1)) (i : Nat) (x : List UInt8) (hx : ps[i]? = some x) : x = homT p d (numsT (d 0) 256) (1 + 2 * (p + i)) ++ homT p d (numsT (d 0) 256) (1 + 2 * (p + i) + 1) := by
  have hm : ∀ n, n ∈ numsT (d 0) 256 ↔ ∃ x ∈ l, x.n = n := fun n => by rw [h0]; exact mem_mk (fun x hx => by have := hl x hx; omega) n
  by_cases hi : i ∈ numsT (d 0) 256
  · obtain ⟨e1, e2⟩ := homT_at p (numsT (d 0) 256) d (fun y hy => by obtain ⟨z, hz, rfl⟩ := (hm y).1 hy; exact hl z hz) (numsT_nodup _ _) i hi
    rw [e1, e2]
    obtain ⟨z, hz, rfl⟩ := (hm i).1 hi
    rw [sl z hz] at hx
    exact (Option.some.inj hx).symm
  · obtain ⟨e1, e2⟩ := homT_no p (numsT (d 0) 256) d i hi
    rw [e1, e2]
    exact hom i x (fun h => hi ((hm i).2 (by obtain ⟨z, hz, e⟩ := List.mem_map.1 h; exact ⟨z, hz, e⟩))) hx
theorem St.rpx (hp : p ≤ 20) (c : Sta p more d ps) (l : List Pw) (h0 : d 0 = mkB l) (hne : l ≠ []) (hl : ∀ x ∈ l, x.n < p) (sl : ∀ x ∈ l, ps[x.n]? = some (d (1 + 2 * x.n) ++ d (1 + 2 * x.n + 1))) (hom : ∀ (i : Nat) (x : List UInt8), i ∉ l.map Pw.n → ps[i]? = some x → x = d (1 + 2 * (p + i)) ++ d (1 + 2 * (p + i) + 1)) (hx : RpX p (4 * p + 1 + more) d (numsT (d 0) 256) (d 0) d') (hlen : ∀ i, i < 4 * p + 1 + more → (d' i).length = 512) : St p more d' ps := by
  have hm : ∀ n, n ∈ numsT (d 0) 256 ↔ ∃ x ∈ l, x.n = n := fun n => by rw [h0]; exact mem_mk (fun x hx => by have := hl x hx; omega) n
  have hnp : ∀ y ∈ numsT (d 0) 256, y < p := fun y hy => by obtain ⟨z, hz, rfl⟩ := (hm y).1 hy; exact hl z hz
  have hip : ∀ (i : Nat) (x : List UInt8), ps[i]? = some x → i < p := fun i x hx => by have := (List.getElem?_eq_some_iff.1 hx).1; have := c.pl; omega
  cases hx with
  | a hu =>
    have low : ∀ j, j < 1 + 2 * p → d' j = d j := fun j hj => hu j (by omega) (fun ⟨x, _, e⟩ => by dsimp only [gH] at e; omega)
    refine .y ⟨hlen, fun j h1 h2 => ?_, c.pl⟩ l (by rw [low 0 (by omega), h0]) hne hl (fun x hx => ?_) (fun i x hi hx => ?_)
    · rw [hu j h2 (fun ⟨x, hx, e⟩ => by have := hnp x hx; dsimp only [gH] at e; omega)]
      exact c.rst j h1 h2
    · have := hl x hx
      rw [low _ (by omega), low _ (by omega)]
      exact sl x hx
    · have hi' : i ∉ numsT (d 0) 256 := fun h => hi (by obtain ⟨z, hz, e⟩ := (hm i).1 h; exact List.mem_map.2 ⟨z, hz, e⟩)
      have := hip i x hx
      rw [hu _ (by omega) (fun h => hi' (us_home h)), hu _ (by omega) (fun h => hi' (us_home1 h))]
      exact hom i x hi hx
  | b hu ht =>
    have oth : ∀ j, j < 4 * p + 1 + more → j ≠ 0 → d' j = homT p d (numsT (d 0) 256) j := fun j hj h => hu j hj h
    have rst : ∀ j, 4 * p + 1 ≤ j → j < 4 * p + 1 + more → d' j = zS := fun j h1 h2 => by
      rw [oth j h2 (by omega), homT_far p _ d hnp j h1]
      exact c.rst j h1 h2
    have h0l : (d 0).length = 512 := c.len 0 (by omega)
    rcases tn_off h0l ht with e | e
    · refine .n ⟨hlen, rst, c.pl⟩ (by rw [e]; exact off_last _ h0l) (fun i x hx => ?_)
      have := hip i x hx
      rw [oth _ (by omega) (by omega), oth _ (by omega) (by omega)]
      exact rep_hom hp l h0 hl sl hom i x hx
    · refine .y ⟨hlen, rst, c.pl⟩ l (by rw [e, h0]) hne hl (fun x hx => ?_) (fun i x hi hx => ?_)
      · have := hl x hx
        rw [oth _ (by omega) (by omega), oth _ (by omega) (by omega), homT_lo p _ d _ (by omega), homT_lo p _ d _ (by omega)]
        exact sl x hx
      · have := hip i x hx
        rw [oth _ (by omega) (by omega), oth _ (by omega) (by omega)]
        exact rep_hom hp l h0 hl sl hom i x hx
theorem St.wix (hr : ∀ j, 4 * p + 1 ≤ j → j < 4 * p + 1 + more → d j = zS) (hl : ps.length = p) (h0 : bAt (d 0) 511 = 0) (h0l : (d 0).length = 512) (hom : ∀ (i : Nat) (x : List UInt8), ps[i]? = some x → x = d (1 + 2 * (p + i)) ++ d (1 + 2 * (p + i) + 1)) (hx : WiX (4 * p + 1 + more) (1 + 2 * p) d d') (hlen : ∀ i, i < 4 * p + 1 + more → (d' i).length = 512) : St p more d' ps := by
  have oth : ∀ j, j < 4 * p + 1 + more → 1 + 2 * p ≤ j → d' j = d j := fun j hj h => hx.u j hj (by omega)
  refine .n ⟨hlen, fun j h1 h2 => by rw [oth j h2 (by omega)]; exact hr j h1 h2, hl⟩ ?_ (fun i x hi => ?_)
  · rcases tn_last zS_len h0l hx.t with e | e
    · rw [e, bAt_zS]
    · rw [e, h0]
  · have := (List.getElem?_eq_some_iff.1 hi).1
    rw [oth _ (by omega) (by omega), oth _ (by omega) (by omega)]
    exact hom i x hi
end
end Go.Proofs.YtmbgeojjklboeaaGreatDoor
