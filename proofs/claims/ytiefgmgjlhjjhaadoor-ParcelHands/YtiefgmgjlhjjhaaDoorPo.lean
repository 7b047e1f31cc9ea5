import Derived.Test.YtiefgmgjlhjjhaaDoorPn
set_option linter.unusedVariables false
set_option linter.unusedSimpArgs false
namespace Go.Proofs.YtiefgmgjlhjjhaaDoor
open Go.RowKit

attribute [local irreducible] sm sumOf cnt chk partB pM pI pN pA pS pC
theorem numB_be32 {n : Nat} (h : n < 4294967296) : numB (be32 n) = n := by
  have t : ∀ k : Nat, (UInt8.ofNat (k % 256)).toNat = k % 256 := fun k => by rw [UInt8.toNat_ofNat']; omega
  simp only [numB, be32, shB, List.foldl_cons, List.foldl_nil, t]
  omega
theorem numB_1 {n : Nat} (h : n < 256) : numB [UInt8.ofNat n] = n := by
  simp only [numB, List.foldl_cons, List.foldl_nil, UInt8.toNat_ofNat']
  omega
/-- The fields of a part's bytes. -/
theorem part_is (id n i : Nat) (s d : List UInt8) (hid : id < 4294967296) (hn : n < 256) (hi : i < 256) (hs : s.length = 8) : pM (partB id n i s d) = 5 ∧ pI (partB id n i s d) = id ∧ pN (partB id n i s d) = n ∧ pA (partB id n i s d) = i ∧ pS (partB id n i s d) = s ∧ pC (partB id n i s d) = d := by
  have e : partB id n i s d = UInt8.ofNat 5 :: shB id 16777216 :: shB id 65536 :: shB id 256 :: shB id 1 :: UInt8.ofNat n :: UInt8.ofNat i :: (s ++ d) := by simp [partB, be32]
  have hl : (partB id n i s d).length = 15 + d.length := partB_len id n i s d hs
  refine ⟨?_, ?_, ?_, ?_, ?_, ?_⟩
  · unfold pM; rw [e]; simp only [List.drop_zero, List.take_succ_cons, List.take_zero]; exact numB_1 (by decide)
  · unfold pI; rw [e]; simp only [List.drop_succ_cons, List.drop_zero, List.take_succ_cons, List.take_zero]; exact numB_be32 hid
  · unfold pN; rw [e]; simp only [List.drop_succ_cons, List.drop_zero, List.take_succ_cons, List.take_zero]; exact numB_1 hn
  · unfold pA; rw [e]; simp only [List.drop_succ_cons, List.drop_zero, List.take_succ_cons, List.take_zero]; exact numB_1 hi
  · unfold pS; rw [e]; simp only [List.drop_succ_cons, List.drop_zero]; rw [List.take_append_of_le_length (by omega), List.take_of_length_le (by omega)]
  · unfold pC; rw [hl, e]; simp only [List.drop_succ_cons, List.drop_zero]
    rw [List.drop_append_of_le_length (by omega), List.drop_of_length_le (by omega), List.nil_append, List.take_of_length_le (by omega)]
theorem chk_len {T : List UInt8} {i : Nat} (h : i < cnt T) : (i + 1 < cnt T → (chk T i).length = 497) ∧ (1 < cnt T → 0 < (chk T i).length) ∧ (chk T i).length ≤ 497 := by
  unfold cnt at h ⊢
  unfold chk
  rw [List.length_take, List.length_drop]
  omega
theorem part_ok {T : List UInt8} (id : Nat) (hid : id < 4294967296) (hT : T.length ≤ 31808) {i : Nat} (hi : i < cnt T) {d : List UInt8} (hd : d.length = (chk T i).length) (s : List UInt8) (hs : s.length = 8) : okP (partB id (cnt T) i s d) = true := by
  have hc := cnt_le hT
  obtain ⟨h1, h2, h3, h4, h5, h6⟩ := part_is id (cnt T) i s d hid (by omega) (by omega) hs
  obtain ⟨k1, k2, k3⟩ := chk_len hi
  have hl := partB_len id (cnt T) i s d hs
  unfold okP
  rw [h1, h3, h4, hl, decide_eq_true ⟨by omega, by omega, rfl, by omega, hc, hi⟩, Bool.true_and]
  unfold fitB
  rw [show 15 + d.length - 15 = d.length by omega, hd]
  split
  · rename_i h; exact decide_eq_true (k1 h)
  · split
    · rename_i _ h; exact decide_eq_true (k2 h)
    · rfl
set_option maxRecDepth 100000 in
theorem chks (T : List UInt8) : ∀ n, ((List.range n).map (chk T)).flatten = T.take (n * 497)
  | 0 => by simp
  | n + 1 => by
    rw [List.range_succ, List.map_append, List.flatten_append, chks T n]
    simp only [List.map_cons, List.map_nil, List.flatten_cons, List.flatten_nil, List.append_nil]
    unfold chk
    have e : (n + 1) * 497 = n * 497 + 497 := by omega
    rw [e]
    rcases Nat.le_total T.length (n * 497) with h | h
    · rw [List.drop_of_length_le h, List.take_nil, List.append_nil, List.take_of_length_le h, List.take_of_length_le (by omega)]
    · rw [List.take_add]
      congr 1
      rcases Nat.le_total (n * 497 + 497) T.length with h2 | h2
      · rw [Nat.min_eq_left h2, show n * 497 + 497 - n * 497 = 497 by omega]
      · rw [Nat.min_eq_right h2, List.take_of_length_le (by rw [List.length_drop]; exact Nat.le_refl _), List.take_of_length_le (by rw [List.length_drop]; omega)]
theorem chks_all (T : List UInt8) : ((List.range (cnt T)).map (chk T)).flatten = T := by
  rw [chks, List.take_of_length_le]
  unfold cnt; omega
/-- A parcel of a text, of which the parts f have come. -/
structure Gt (T : List UInt8) (q : Pc) (f : Nat → Bool) : Prop where
  n : q.n = cnt T
  s : q.s = sm T
  h : ∀ i, i < 64 → q.h[i]? = some (f i)
  t : ∀ i, i < 64 → f i = true → q.t[i]? = some (chk T i)
  lt : q.t.length = 64
def upd (f : Nat → Bool) (x : Nat) (i : Nat) : Bool := if i = x then true else f i
theorem Gt.mk0 {T : List UInt8} {f : Nat → Bool} (hf : ∀ i, f i = false) : Gt T (Pc.mk0 (cnt T) (sm T)) f := ⟨rfl, rfl, fun i hi => by rw [hf]; show (List.replicate 64 false)[i]? = _; rw [List.getElem?_replicate, if_pos hi], fun i _ h => (by rw [hf] at h; cases h), by simp [Pc.mk0]⟩
theorem Gt.put {T : List UInt8} {q : Pc} {f : Nat → Bool} (g : Gt T q f) {x : Nat} (hx : x < 64) (hl : q.h.length = 64) (u : Value) : Gt T (q.put x u (chk T x)) (upd f x) := by
  refine ⟨g.n, g.s, fun i hi => ?_, fun i hi hf => ?_, by simp [Pc.put, g.lt]⟩
  · simp only [Pc.put, List.getElem?_set, upd]
    by_cases e : i = x
    · rw [if_pos e.symm, if_pos (by omega), if_pos e]
    · rw [if_neg (fun h => e h.symm), if_neg e]; exact g.h i hi
  · simp only [Pc.put, List.getElem?_set]
    unfold upd at hf
    by_cases e : i = x
    · rw [if_pos e.symm, if_pos (by rw [g.lt]; omega), e]
    · rw [if_neg (fun h => e h.symm)]
      rw [if_neg e] at hf
      exact g.t i hi hf
theorem Gt.mis {T : List UInt8} {q : Pc} {f : Nat → Bool} (g : Gt T q f) (hc : cnt T ≤ 64) : q.mis q.n = (List.range (cnt T)).filter fun i => !(f i) := by
  unfold Pc.mis
  rw [g.n]
  refine List.filter_congr fun i hi => ?_
  have := List.mem_range.1 hi
  rw [List.getD_eq_getElem?_getD, g.h i (by omega)]; rfl
theorem Gt.all {T : List UInt8} {q : Pc} {f : Nat → Bool} (g : Gt T q f) (hc : cnt T ≤ 64) : q.all = decide (∀ i, i < cnt T → f i = true) := by
  unfold Pc.all
  rw [g.mis hc, decide_eq_decide]
  constructor
  · intro h i hi
    have h' := List.eq_nil_of_length_eq_zero h
    rw [List.filter_eq_nil_iff] at h'
    simpa using h' i (List.mem_range.2 hi)
  · intro h
    rw [List.length_eq_zero_iff, List.filter_eq_nil_iff]
    intro i hi
    rw [h i (List.mem_range.1 hi)]; simp
theorem Gt.txt {T : List UInt8} {q : Pc} {f : Nat → Bool} (g : Gt T q f) (hc : cnt T ≤ 64) (ha : ∀ i, i < cnt T → f i = true) : q.txt = T := by
  unfold Pc.txt
  rw [g.n]
  have e : q.t.take (cnt T) = (List.range (cnt T)).map (chk T) := by
    apply List.ext_getElem?
    intro i
    rw [List.getElem?_take, List.getElem?_map]
    by_cases hi : i < cnt T
    · rw [if_pos hi, g.t i (by omega) (ha i hi), List.getElem?_range hi]; rfl
    · rw [if_neg hi, List.getElem?_eq_none (by simp; omega)]; rfl
  rw [e, chks_all]
def stM (a : List UInt8) (n : Nat) (K : Pc) (m : Me) : Me := if a = m.p ∧ n = m.id then { m with c := K } else m
theorem stM_p (a : List UInt8) (n : Nat) (K : Pc) (m : Me) : (stM a n K m).p = m.p := by unfold stM; split <;> rfl
theorem stM_id (a : List UInt8) (n : Nat) (K : Pc) (m : Me) : (stM a n K m).id = m.id := by unfold stM; split <;> rfl
theorem setE_st (E : List Me) (a : List UInt8) (n : Nat) (K : Pc) : setE E a n K = E.map (stM a n K) := rfl
theorem find_st (E : List Me) (a : List UInt8) (n : Nat) (K : Pc) (a' : List UInt8) (n' : Nat) : (setE E a n K).find? (fun m => decide (a' = m.p ∧ n' = m.id)) = (E.find? (fun m => decide (a' = m.p ∧ n' = m.id))).map (stM a n K) := by
  rw [setE_st, List.find?_map]
  congr 2
  funext m
  simp only [Function.comp, stM_p, stM_id]
theorem lk_up_self (E : List Me) (a : List UInt8) (n : Nat) (K : Pc) (c : Nat) : lkE (upE E a n K c) a n = some K := by
  unfold upE
  cases hk : lkE E a n with
  | none =>
    simp only [Option.isSome_none, Bool.false_eq_true, if_false]
    unfold lkE
    rw [List.find?_append, show E.find? (fun m => decide (a = m.p ∧ n = m.id)) = none from List.find?_eq_none.2 fun m hm => by simpa using lk_none hk m hm]
    simp
  | some x =>
    simp only [Option.isSome_some, if_true]
    obtain ⟨m, hm, _, h1, h2⟩ := lk_mem hk
    unfold lkE at hk ⊢
    rw [find_st]
    cases hf : E.find? (fun m => decide (a = m.p ∧ n = m.id)) with
    | none => rw [hf] at hk; cases hk
    | some y =>
      have h3 := List.find?_some hf
      simp only [decide_eq_true_eq] at h3
      simp only [Option.map_some]
      unfold stM
      rw [if_pos h3]
theorem ah_none {E : List Me} {most : Nat} {a : List UInt8} {x : Pi} (hk : lkE E a x.id = none) : ahR E most a x = if most ≤ E.length then (Pc.z, 120) else (Pc.mk0 x.n x.s, 0) := by unfold ahR; rw [hk]
theorem ah_some {E : List Me} {most : Nat} {a : List UInt8} {x : Pi} {c : Pc} (hk : lkE E a x.id = some c) : ahR E most a x = if ¬ (c.n = x.n ∧ c.s = x.s) then (Pc.z, 260) else if c.h.getD x.i false then (Pc.z, 151) else (c, 0) := by unfold ahR; rw [hk]
theorem mk0_h (n : Nat) (s : List UInt8) : (Pc.mk0 n s).h.length = 64 := List.length_replicate
/-- How far a parcel of a text has come in a tray. -/
def Lc (E : List Me) (most : Nat) (a : List UInt8) (id : Nat) (T : List UInt8) (f : Nat → Bool) : Prop := (lkE E a id = none ∧ E.length < most ∧ ∀ i, f i = false) ∨ ∃ q, lkE E a id = some q ∧ Gt T q f ∧ q.h.length = 64
def ptB (id : Nat) (T : List UInt8) (x : Nat) : List UInt8 := partB id (cnt T) x (sm T) (chk T x)
section
variable {E : List Me} {most : Nat} {a : List UInt8} {id : Nat} {T : List UInt8} {f : Nat → Bool}
theorem ah_part (h : Lc E most a id T f) (hid : id < 4294967296) (hT : T.length ≤ 31808) {x : Nat} (hx : x < cnt T) {d : List UInt8} (hd : d.length = (chk T x).length) (hfx : f x = false) (u : Value) : (ahR E most a (adX (partB id (cnt T) x (sm T) d) u)).2 = 0 ∧ Gt T (ahR E most a (adX (partB id (cnt T) x (sm T) d) u)).1 f ∧ (ahR E most a (adX (partB id (cnt T) x (sm T) d) u)).1.h.length = 64 := by
  have hc := cnt_le hT
  obtain ⟨h1, h2, h3, h4, h5, h6⟩ := part_is id (cnt T) x (sm T) d hid (by omega) (by omega) (sm_len T)
  have e : adX (partB id (cnt T) x (sm T) d) u = ⟨id, cnt T, x, sm T, u⟩ := by unfold adX; rw [h2, h3, h4, h5]
  rw [e]
  rcases h with ⟨k1, k2, k3⟩ | ⟨q, k1, k2, k3⟩
  · rw [ah_none (x := ⟨id, cnt T, x, sm T, u⟩) k1, if_neg (by omega)]
    exact ⟨rfl, Gt.mk0 k3, mk0_h _ _⟩
  · rw [ah_some (x := ⟨id, cnt T, x, sm T, u⟩) k1, if_neg (fun h => h ⟨k2.n, k2.s⟩), if_neg (by rw [List.getD_eq_getElem?_getD, k2.h x (by omega), hfx]; decide)]
    exact ⟨rfl, k2, k3⟩
theorem ad_part (h : Lc E most a id T f) (hid : id < 4294967296) (hT : T.length ≤ 31808) {x : Nat} (hx : x < cnt T) (hfx : f x = false) (u : Value) : Gt T (adQ E most a (ptB id T x) u) (upd f x) ∧ (adQ E most a (ptB id T x) u).h.length = 64 := by
  have hc := cnt_le hT
  obtain ⟨h1, h2, h3⟩ := ah_part h hid hT hx rfl hfx u
  obtain ⟨p1, p2, p3, p4, p5, p6⟩ := part_is id (cnt T) x (sm T) (chk T x) hid (by omega) (by omega) (sm_len T)
  unfold adQ ptB
  rw [p4, p6]
  exact ⟨h2.put (by omega) h3 u, by simp [Pc.put]; exact h3⟩
/-- A part that has not come is taken. -/
theorem add_new (h : Lc E most a id T f) (ha : nmB a = true) (hid : id < 4294967296) (hT : T.length ≤ 31808) {x : Nat} (hx : x < cnt T) (hfx : f x = false) : adE E most a (ptB id T x) = 0 ∧ adI E most a (ptB id T x) = id ∧ adW E most a (ptB id T x) = decide (∀ i, i < cnt T → upd f x i = true) ∧ (∀ u c0, adL E most a (ptB id T x) u c0 = upE E a id (adQ E most a (ptB id T x) u) c0) := by
  have hc := cnt_le hT
  obtain ⟨h1, h2, h3⟩ := ah_part h hid hT hx rfl hfx u0
  obtain ⟨g1, g2⟩ := ad_part h hid hT hx hfx u0
  obtain ⟨p1, p2, p3, p4, p5, p6⟩ := part_is id (cnt T) x (sm T) (chk T x) hid (by omega) (by omega) (sm_len T)
  have hA : adA E most a (ptB id T x) = decide (∀ i, i < cnt T → upd f x i = true) := g1.all hc
  have e0 : adE E most a (ptB id T x) = 0 := by
    unfold adE
    rw [if_neg (by rw [ha]; decide), if_neg (by unfold ptB; rw [part_ok id hid hT hx rfl (sm T) (sm_len T)]; decide), if_neg (fun h => h h1), if_neg]
    rintro ⟨w1, w2⟩
    rw [hA, decide_eq_true_eq] at w1
    apply w2
    rw [g1.txt hc w1, g1.s]
  refine ⟨e0, ?_, ?_, fun u c0 => ?_⟩
  · unfold adI; rw [if_pos e0]; exact p2
  · unfold adW; rw [if_pos e0]; exact hA
  · unfold adL; rw [if_pos e0]; unfold ptB; rw [p2]
theorem Lc.up (h : Lc E most a id T f) (hid : id < 4294967296) (hT : T.length ≤ 31808) {x : Nat} (hx : x < cnt T) (hfx : f x = false) (u : Value) (c0 : Nat) : Lc (upE E a id (adQ E most a (ptB id T x) u) c0) most a id T (upd f x) :=
  .inr ⟨_, lk_up_self _ _ _ _ _, (ad_part h hid hT hx hfx u).1, (ad_part h hid hT hx hfx u).2⟩
theorem Lc.fd (h : Lc E most a id T f) (ha : nmB a = true) {x : Nat} (hfx : f x = true) : (fdR E a id).2 = 0 ∧ Gt T (fdR E a id).1 f := by
  rcases h with ⟨k1, k2, k3⟩ | ⟨q, k1, k2, k3⟩
  · rw [k3] at hfx; cases hfx
  · unfold fdR; rw [if_pos ha, k1]; exact ⟨rfl, k2⟩
end
end Go.Proofs.YtiefgmgjlhjjhaaDoor
