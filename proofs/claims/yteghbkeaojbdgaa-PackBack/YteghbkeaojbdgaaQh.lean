import Derived.Test.YteghbkeaojbdgaaQg
set_option linter.unusedVariables false
set_option linter.unusedSimpArgs false
namespace Go.Proofs.Yteghbkeaojbdgaa
open Go.RowKit

theorem r8_zero {c : List UInt8} {p n p' : Nat} {f : Int} (h : r8D c p f = (n, p', 0)) : f = 0 ∧ ∃ x, c[p]? = some x ∧ n = x.toNat ∧ p' = p + 1 := by
  unfold r8D at h
  split at h
  · rename_i hf
    refine ⟨hf, ?_⟩
    split at h
    · rename_i x hx
      simp only [Prod.mk.injEq] at h
      exact ⟨x, hx, h.1.symm, h.2.1.symm⟩
    · simp at h
  · rename_i hf
    simp only [Prod.mk.injEq] at h
    exact absurd h.2.2 hf
theorem rf_zero {c b : List UInt8} {m p p' : Nat} {f : Int} (h : rfD c m p f = (b, p', 0)) : f = 0 ∧ p + m ≤ c.length ∧ b = (c.drop p).take m ∧ p' = p + m := by
  unfold rfD at h
  split at h
  · rename_i hf
    refine ⟨hf, ?_⟩
    split at h
    · rename_i hx
      simp only [Prod.mk.injEq] at h
      exact ⟨hx, h.1.symm, h.2.1.symm⟩
    · simp at h
  · rename_i hf
    simp only [Prod.mk.injEq] at h
    exact absurd h.2.2 hf
theorem rr_zero {c b : List UInt8} {p p' : Nat} {f : Int} (h : rrD c p f = (b, p', 0)) : f = 0 ∧ ∃ N, numB ((c.drop p).take 2) = N ∧ p + 2 + N ≤ c.length ∧ N ≤ 900 ∧ b = (c.drop (p + 2)).take N ∧ p' = p + (2 + N) := by
  unfold rrD at h
  split at h
  · rename_i hf
    refine ⟨hf, ?_⟩
    split at h
    · split at h
      · simp at h
      · split at h
        · rename_i h1 h2 h3
          simp only [Prod.mk.injEq] at h
          exact ⟨_, rfl, h3, by omega, h.1.symm, h.2.1.symm⟩
        · simp at h
    · simp at h
  · rename_i hf
    simp only [Prod.mk.injEq] at h
    exact absurd h.2.2 hf
/-- The record at a place: the record, the place behind it, the fault. -/
def recD (c : List UInt8) (p : Nat) : Rc × Nat × Int :=
  ((⟨((r8D c p 0).1 : Int), (rfD c (r8D c (r8D c p 0).2.1 (r8D c p 0).2.2).1 (r8D c (r8D c p 0).2.1 (r8D c p 0).2.2).2.1 (r8D c (r8D c p 0).2.1 (r8D c p 0).2.2).2.2).1,
    (rrD c (rfD c (r8D c (r8D c p 0).2.1 (r8D c p 0).2.2).1 (r8D c (r8D c p 0).2.1 (r8D c p 0).2.2).2.1 (r8D c (r8D c p 0).2.1 (r8D c p 0).2.2).2.2).2.1 (rfD c (r8D c (r8D c p 0).2.1 (r8D c p 0).2.2).1 (r8D c (r8D c p 0).2.1 (r8D c p 0).2.2).2.1 (r8D c (r8D c p 0).2.1 (r8D c p 0).2.2).2.2).2.2).1⟩ : Rc),
   (rrD c (rfD c (r8D c (r8D c p 0).2.1 (r8D c p 0).2.2).1 (r8D c (r8D c p 0).2.1 (r8D c p 0).2.2).2.1 (r8D c (r8D c p 0).2.1 (r8D c p 0).2.2).2.2).2.1 (rfD c (r8D c (r8D c p 0).2.1 (r8D c p 0).2.2).1 (r8D c (r8D c p 0).2.1 (r8D c p 0).2.2).2.1 (r8D c (r8D c p 0).2.1 (r8D c p 0).2.2).2.2).2.2).2)
theorem rec_of {c : List UInt8} {p n1 p1 n2 p2 p3 p4 : Nat} {f1 f2 f3 f4 : Int} {kb vb : List UInt8} (e1 : r8D c p 0 = (n1, p1, f1)) (e2 : r8D c p1 f1 = (n2, p2, f2)) (e3 : rfD c n2 p2 f2 = (kb, p3, f3)) (e4 : rrD c p3 f3 = (vb, p4, f4)) : recD c p = (⟨(n1 : Int), kb, vb⟩, p4, f4) := by
  unfold recD
  rw [e1]
  dsimp only
  rw [e2]
  dsimp only
  rw [e3]
  dsimp only
  rw [e4]
/-- A record lies there. -/
def Rk (c : List UInt8) (p : Nat) : Prop := (recD c p).2.2 = 0 ∧ okD (recD c p).1
def Og (ds : List Rc) (d : Rc) : Prop := ∀ a, ds.getLast? = some a → cmpD a d < 0
inductive Pz (c : List UInt8) : List Rc → Nat → Prop
  | nil : Pz c [] 0
  | snoc (ds : List Rc) (p : Nat) : Pz c ds p → Rk c p → Og ds (recD c p).1 → Pz c (ds ++ [(recD c p).1]) (recD c p).2.1
theorem numB_two (a b : UInt8) : numB [a, b] = a.toNat * 256 + b.toNat := by simp [numB]
theorem of_toNat8 (x : UInt8) : UInt8.ofNat x.toNat = x := UInt8.ofNat_toNat
theorem drop_cons {c : List UInt8} {p : Nat} {x : UInt8} (h : c[p]? = some x) : c.drop p = x :: c.drop (p + 1) := by
  obtain ⟨h1, h2⟩ := List.getElem?_eq_some_iff.1 h
  rw [List.drop_eq_getElem_cons h1, h2]
theorem rec_enc {c : List UInt8} {p : Nat} (h : (recD c p).2.2 = 0) : c.drop p = encD (recD c p).1 ++ c.drop (recD c p).2.1 ∧ (recD c p).2.1 = p + sizeD (recD c p).1 ∧ (recD c p).2.1 ≤ c.length := by
  obtain ⟨⟨n1, p1, f1⟩, e1⟩ : ∃ x, r8D c p 0 = x := ⟨_, rfl⟩
  obtain ⟨⟨n2, p2, f2⟩, e2⟩ : ∃ x, r8D c p1 f1 = x := ⟨_, rfl⟩
  obtain ⟨⟨kb, p3, f3⟩, e3⟩ : ∃ x, rfD c n2 p2 f2 = x := ⟨_, rfl⟩
  obtain ⟨⟨vb, p4, f4⟩, e4⟩ : ∃ x, rrD c p3 f3 = x := ⟨_, rfl⟩
  have er := rec_of e1 e2 e3 e4
  rw [er] at h ⊢
  have h' : f4 = 0 := h
  subst h'
  obtain ⟨z3, N, hN, hle, h9, hvb, hp4⟩ := rr_zero e4
  subst z3
  obtain ⟨z2, hle3, hkb, hp3⟩ := rf_zero e3
  subst z2
  obtain ⟨z1, x2, hx2, hn2, hp2⟩ := r8_zero e2
  subst z1
  obtain ⟨_, x1, hx1, hn1, hp1⟩ := r8_zero e1
  have hkl : kb.length = n2 := by rw [hkb, List.length_take, List.length_drop]; omega
  have hvl : vb.length = N := by rw [hvb, List.length_take, List.length_drop]; omega
  obtain ⟨a, ha⟩ : ∃ a, c[p3]? = some a := ⟨_, List.getElem?_eq_getElem (by omega)⟩
  obtain ⟨b, hb⟩ : ∃ b, c[p3 + 1]? = some b := ⟨_, List.getElem?_eq_getElem (by omega)⟩
  have hd3 : c.drop p3 = a :: b :: c.drop (p3 + 2) := by rw [drop_cons ha, drop_cons hb]
  have hNab : N = a.toNat * 256 + b.toNat := by rw [← hN, hd3]; exact numB_two a b
  have ea : UInt8.ofNat (vb.length / 256) = a := by
    rw [hvl, hNab, show (a.toNat * 256 + b.toNat) / 256 = a.toNat by have := b.toNat_lt; omega]; exact of_toNat8 a
  have eb : UInt8.ofNat (vb.length % 256) = b := by
    rw [hvl, hNab, show (a.toNat * 256 + b.toNat) % 256 = b.toNat by have := b.toNat_lt; omega]; exact of_toNat8 b
  have ek : UInt8.ofNat kb.length = x2 := by rw [hkl, hn2]; exact of_toNat8 x2
  have et : UInt8.ofNat ((n1 : Int)).toNat = x1 := by rw [Int.toNat_natCast, hn1]; exact of_toNat8 x1
  refine ⟨?_, ?_, ?_⟩
  · show c.drop p = encD ⟨(n1 : Int), kb, vb⟩ ++ c.drop p4
    unfold encD
    dsimp only
    rw [et, ek, ea, eb]
    have d1 : c.drop p = x1 :: x2 :: c.drop p2 := by rw [drop_cons hx1, hp2, hp1, drop_cons (by rw [← hp1]; exact hx2)]
    have d2 : c.drop p2 = kb ++ c.drop p3 := by rw [hkb, hp3, ← List.drop_drop, List.take_append_drop]
    have d3 : c.drop (p3 + 2) = vb ++ c.drop p4 := by rw [hvb, hp4, show p3 + (2 + N) = p3 + 2 + N by omega, show c.drop (p3 + 2 + N) = (c.drop (p3 + 2)).drop N by rw [List.drop_drop], List.take_append_drop]
    rw [d1, d2, hd3, d3]
    simp
  · show p4 = p + (4 + kb.length + vb.length)
    omega
  · show p4 ≤ c.length
    omega
theorem rec_dec {c r : List UInt8} {p : Nat} {d : Rc} (hd : okD d) (h : c.drop p = encD d ++ r) : recD c p = (d, p + sizeD d, 0) := by
  obtain ⟨t, k, v⟩ := d
  obtain ⟨h0, h15, h1, h64, h900⟩ := hd
  dsimp only at h0 h15 h1 h64 h900
  have hlen : c.length - p = sizeD ⟨t, k, v⟩ + r.length := by
    have := congrArg List.length h
    rw [List.length_drop, List.length_append, enc_len] at this
    exact this
  have hsz : sizeD ⟨t, k, v⟩ = 4 + k.length + v.length := rfl
  unfold encD at h
  dsimp only at h
  have hg : ∀ i, c[p + i]? = (c.drop p)[i]? := fun i => by rw [List.getElem?_drop]
  have e1 : r8D c p 0 = (t.toNat, p + 1, 0) := by
    have := hg 0
    rw [h] at this
    unfold r8D
    rw [if_pos rfl, show p = p + 0 from rfl, this]
    simp
    omega
  have e2 : r8D c (p + 1) 0 = (k.length, p + 1 + 1, 0) := by
    have := hg 1
    rw [h] at this
    unfold r8D
    rw [if_pos rfl, this]
    simp
    omega
  have hk2 : c.drop (p + 1 + 1) = k ++ ([UInt8.ofNat (v.length / 256), UInt8.ofNat (v.length % 256)] ++ v ++ r) := by
    rw [show p + 1 + 1 = p + 2 by omega, ← List.drop_drop, h]; simp
  have e3 : rfD c k.length (p + 1 + 1) 0 = (k, p + 1 + 1 + k.length, 0) := by
    unfold rfD
    rw [if_pos rfl, if_pos (by omega), hk2, List.take_left]
  have hk3 : c.drop (p + 1 + 1 + k.length) = [UInt8.ofNat (v.length / 256), UInt8.ofNat (v.length % 256)] ++ (v ++ r) := by
    rw [← List.drop_drop, hk2, List.drop_left]; simp
  have hN : numB ((c.drop (p + 1 + 1 + k.length)).take 2) = v.length := by
    rw [hk3]
    show numB [_, _] = _
    rw [numB_two]
    simp
    omega
  have hk4 : c.drop (p + 1 + 1 + k.length + 2) = v ++ r := by
    rw [← List.drop_drop, hk3]; rfl
  have e4 : rrD c (p + 1 + 1 + k.length) 0 = (v, p + 1 + 1 + k.length + (2 + v.length), 0) := by
    unfold rrD
    rw [if_pos rfl, if_pos (by omega), hN, if_neg (by omega), if_pos (by omega), hk4, List.take_left]
  rw [rec_of e1 e2 e3 e4, show ((t.toNat : Nat) : Int) = t by omega]
  simp [sizeD]
  omega
theorem pz_det {c : List UInt8} {ds ds' : List Rc} {p p' : Nat} (h : Pz c ds p) (h' : Pz c ds' p') (hl : ds.length = ds'.length) : ds = ds' ∧ p = p' := by
  induction h generalizing ds' p' with
  | nil =>
    cases h' with
    | nil => exact ⟨rfl, rfl⟩
    | snoc es q _ _ _ => simp at hl
  | snoc es q h1 h2 h3 ih =>
    cases h' with
    | nil => simp at hl
    | snoc es' q' h1' h2' h3' =>
      obtain ⟨e1, e2⟩ := ih h1' (by simpa using hl)
      rw [e1, e2]
      exact ⟨rfl, rfl⟩
theorem pz_next {c : List UInt8} {ds ds' : List Rc} {p p' : Nat} (h : Pz c ds p) (h' : Pz c ds' p') (hl : ds.length < ds'.length) : Rk c p ∧ Og ds (recD c p).1 := by
  induction h' with
  | nil => simp at hl
  | snoc es q h1 h2 h3 ih =>
    rcases Nat.lt_or_ge ds.length es.length with hlt | hge
    · exact ih hlt
    · obtain ⟨e1, e2⟩ := pz_det h h1 (by simp at hl; omega)
      rw [e1, e2]
      exact ⟨h2, h3⟩
theorem pz_size {c : List UInt8} {ds : List Rc} {p : Nat} (h : Pz c ds p) : 4 * ds.length ≤ p ∧ p ≤ c.length ∧ c = ds.flatMap encD ++ c.drop p ∧ (ds.flatMap encD).length = p := by
  induction h with
  | nil => exact ⟨by simp, Nat.zero_le _, by simp, rfl⟩
  | snoc es q h1 h2 h3 ih =>
    obtain ⟨g1, g2, g3⟩ := rec_enc h2.1
    obtain ⟨i1, i2, i3, i4⟩ := ih
    have hs : sizeD (recD c q).1 = 4 + (recD c q).1.k.length + (recD c q).1.v.length := rfl
    refine ⟨by rw [List.length_append, List.length_singleton]; omega, g3, ?_, ?_⟩
    · rw [List.flatMap_append, List.flatMap_singleton, List.append_assoc, ← g1]; exact i3
    · rw [List.flatMap_append, List.flatMap_singleton, List.length_append, i4, enc_len, g2]
theorem pz_srt {c : List UInt8} {ds : List Rc} {p : Nat} (h : Pz c ds p) : Srt ds := by
  induction h with
  | nil => exact ⟨fun d hd => (by cases hd), fun i a b ha => (by cases ha)⟩
  | snoc es q h1 h2 h3 ih =>
    refine ⟨fun d hd => ?_, fun i a b ha hb => ?_⟩
    · rcases List.mem_append.1 hd with e | e
      · exact ih.ok d e
      · rw [List.mem_singleton.1 e]; exact h2.2
    · rcases Nat.lt_or_ge (i + 1) es.length with hlt | hge
      · rw [List.getElem?_append_left (by omega)] at ha
        rw [List.getElem?_append_left hlt] at hb
        exact ih.lt i a b ha hb
      · have hlt := (List.getElem?_eq_some_iff.1 hb).1
        rw [List.length_append, List.length_singleton] at hlt
        have he : i + 1 = es.length := by omega
        rw [List.getElem?_append_left (by omega)] at ha
        rw [he, List.getElem?_append_right (Nat.le_refl _), Nat.sub_self] at hb
        have hb' : (recD c q).1 = b := by simpa using hb
        rw [← hb']
        exact h3 a (by rw [List.getLast?_eq_getElem?, ← he]; simpa using ha)
theorem read_any (q : Nat) (v : Value) (c : List UInt8) (p : Nat) (w : World) (hr : Rd w q v c p 0) (hl : c.length ≤ 100000) : Calls Try.prog 44 #[.pointer (some ⟨q, 0, none⟩)] w fun e w' => ∃ (x : RV) (er : Int), e = .returned (.tuple #[x.val, .int .i64 er]) ∧ x.ok w' ∧ Fx (fun k => k = q) w w' ∧ ((er = 0 ∧ Rk c p ∧ x.d = (recD c p).1 ∧ Fresh w x.vk ∧ Fresh w x.vv ∧ Rd w' q v c (recD c p).2.1 0) ∨ (er = 110 ∧ ¬ Rk c p)) := by
  obtain ⟨⟨n1, p1, f1⟩, e1⟩ : ∃ x, r8D c p 0 = x := ⟨_, rfl⟩
  obtain ⟨⟨n2, p2, f2⟩, e2⟩ : ∃ x, r8D c p1 f1 = x := ⟨_, rfl⟩
  obtain ⟨⟨kb, p3, f3⟩, e3⟩ : ∃ x, rfD c n2 p2 f2 = x := ⟨_, rfl⟩
  obtain ⟨⟨vb, p4, f4⟩, e4⟩ : ∃ x, rrD c p3 f3 = x := ⟨_, rfl⟩
  have er := rec_of e1 e2 e3 e4
  by_cases hf : f4 = 0
  · subst hf
    refine (read_ok q v c p 0 w hr hl n1 p1 n2 p2 p3 p4 f1 f2 f3 kb vb e1 e2 e3 e4).mono ?_
    rintro e w' ⟨x, g1, g2, g3, g4, g5, g6, g7⟩
    refine ⟨x, errR x, g1, g2, g7, ?_⟩
    rcases Classical.em (okD x.d) with ho | ho
    · exact .inl ⟨errR_ok ho, ⟨by rw [er], by rw [er]; rw [g3] at ho; exact ho⟩, by rw [er]; exact g3, g4, g5, by rw [er]; exact g6⟩
    · refine .inr ⟨?_, fun hk => ho ?_⟩
      · unfold errR okR
        rw [if_neg]
        intro h
        exact ho (by unfold okD; exact of_decide_eq_true h)
      · have := hk.2
        rw [er] at this
        rw [g3]; exact this
  · refine (read_bad q v c p 0 w hr hl n1 p1 n2 p2 p3 p4 f1 f2 f3 kb vb e1 e2 e3 f4 hf e4).mono ?_
    rintro e w' ⟨g1, g2, g3⟩
    exact ⟨zR, 110, g1, ⟨Has.nil _, Has.nil _⟩, g3, .inr ⟨rfl, fun hk => hf (by have := hk.1; rw [er] at this; exact this)⟩⟩
end Go.Proofs.Yteghbkeaojbdgaa
