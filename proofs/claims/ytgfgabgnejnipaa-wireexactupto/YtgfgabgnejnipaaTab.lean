import Derived.Test.YtgfgabgnejnipaaSep
import Derived.Test.YtgfgabgnejnipaaPut
namespace Go.Proofs.Ytgfgabgnejnipaa
open Go.RowKit

/-- The pairs within the table: which cell, in whatever world. -/
theorem idx60 (T o k : Nat) (hk : k < 2) (W : World) : (Instr.indexAt 60 (.pointer (some ⟨T, o, none⟩)) (.int .i64 (k : Int))).run Try.prog W = .ok (.pointer (some ⟨T, o + k, none⟩)) W := by
  obtain rfl | rfl : k = 0 ∨ k = 1 := by omega
  · go_simp
  · go_simp
theorem idx62 (T o k : Nat) (hk : k < 2) (W : World) : (Instr.indexAt 62 (.pointer (some ⟨T, o, none⟩)) (.int .i64 (k : Int))).run Try.prog W = .ok (.pointer (some ⟨T, o + k, none⟩)) W := by
  obtain rfl | rfl : k = 0 ∨ k = 1 := by omega
  · go_simp
  · go_simp
theorem idx63 (T o k : Nat) (hk : k < 2) (W : World) : (Instr.indexAt 63 (.pointer (some ⟨T, o, none⟩)) (.int .i64 (k : Int))).run Try.prog W = .ok (.pointer (some ⟨T, o + k, none⟩)) W := by
  obtain rfl | rfl : k = 0 ∨ k = 1 := by omega
  · go_simp
  · go_simp
theorem idx65 (T o k : Nat) (hk : k < 2) (W : World) : (Instr.indexAt 65 (.pointer (some ⟨T, o, none⟩)) (.int .i64 (k : Int))).run Try.prog W = .ok (.pointer (some ⟨T, o + k, none⟩)) W := by
  obtain rfl | rfl : k = 0 ∨ k = 1 := by omega
  · go_simp
  · go_simp

theorem mask1 (n : Int) : bits .and .i64 n 1 = n % 2 := mask_and n 1 (by decide)
theorem and1 (n : Int) : ∃ k : Nat, k < 2 ∧ bits .and .i64 n 1 = (k : Int) :=
  ⟨(n % 2).toNat, by omega, by rw [mask1]; omega⟩

set_option maxRecDepth 100000 in
set_option maxHeartbeats 400000 in
theorem qnewy_any (v : Value) (bs : List UInt8) (w : World) (h : Has w v bs) (hn : bs.length ≤ 150000000000000) :
    Calls Try.prog 54 #[v] w fun e w' => ∃ p rv, e = .returned (.pointer (some ⟨p, 0, none⟩)) ∧ Qd w' p rv bs 0 0 ∧ w.heap.size ≤ p ∧ Own w' w.heap.size rv bs ∧ Below w.heap.size w w' := by
  have HH := hide h
  clear h
  go_enter Try.func54, Try.ntmps54
  go_wp2_with (at_builtin; refine wpList_app rfl _ _ rfl w.heap.size _ [] rfl (Own.nil _ _) _ bs rfl HH.out (by simp; omega) (Nat.le_refl _) ?_)
  intro v1 w1 hown1 hg1
  have h2 := (Below.refl w.heap.size w).grown hg1 (Nat.le_refl _) (Own.nil w w.heap.size).ownBlock
  have h1 : Own w1 w.heap.size v1 bs := hown1
  obtain ⟨ao, cap, rfl⟩ := h1.slice
  have hnew := below_new w1 (.cells #[.slice ao bs.length cap, .int .i64 0, .int .i64 0] 103)
  have HR : Hid (Qd (w1.alloc (.cells #[.slice ao bs.length cap, .int .i64 0, .int .i64 0] 103)) w1.heap.size (.slice ao bs.length cap) bs 0 0) := ⟨at_new w1 _ _ ⟨rfl, rfl, rfl, rfl⟩, h1.has.below hnew, Nat.zero_le _⟩
  have HB := hide (bel_chain h2 hnew)
  have HS := hide h2.size
  have HO := hide (h1.below hnew)
  clear h1 h2 hnew hown1 hg1
  go_wp2
  go_ret
  exact ⟨_, _, rfl, HR.out, HS.out, HO.out, HB.out⟩

set_option maxRecDepth 100000 in
set_option maxHeartbeats 400000 in
theorem rnewy_any (v : Value) (bs : List UInt8) (w : World) (h : Has w v bs) (hn : bs.length ≤ 150000000000000) :
    Calls Try.prog 24 #[v] w fun e w' => ∃ p rv, e = .returned (.pointer (some ⟨p, 0, none⟩)) ∧ Rd w' p rv bs 0 0 ∧ w.heap.size ≤ p ∧ Own w' w.heap.size rv bs ∧ Below w.heap.size w w' := by
  have HH := hide h
  clear h
  go_enter Try.func24, Try.ntmps24
  go_wp2_with fail
  refine (clone_any v bs _ HH.out hn).mono ?_
  rintro e w1 ⟨ao, cap, rfl, h1, h2⟩
  have hnew := below_new w1 (.cells #[.slice ao bs.length cap, .int .i64 0, .int .i64 0] 84)
  have HR : Hid (Rd (w1.alloc (.cells #[.slice ao bs.length cap, .int .i64 0, .int .i64 0] 84)) w1.heap.size (.slice ao bs.length cap) bs 0 0) := ⟨at_new w1 _ _ ⟨rfl, rfl, rfl, rfl⟩, h1.has.below hnew, Nat.zero_le _⟩
  have HB := hide (bel_chain h2 hnew)
  have HS := hide h2.size
  have HO := hide (h1.below hnew)
  clear h1 h2 hnew
  go_wp2
  go_ret
  exact ⟨_, _, rfl, HR.out, HS.out, HO.out, HB.out⟩

def SlotW (cs : Array Value) (X : Nat → Thing) (k : Nat) : Prop := ∃ p v q u most bs f, cs[k]? = some (.pointer (some ⟨p, 0, none⟩)) ∧ cs[2 + k]? = some (.pointer (some ⟨q, 0, none⟩)) ∧ X k = wT p v most bs f ∧ X (2 + k) = vT q u most bs f ∧ most ≤ 1048576 ∧ bs.length ≤ most
def SlotR (cs : Array Value) (X : Nat → Thing) (k : Nat) : Prop := ∃ p v q u all a f, cs[4 + k]? = some (.pointer (some ⟨p, 0, none⟩)) ∧ cs[6 + k]? = some (.pointer (some ⟨q, 0, none⟩)) ∧ X (4 + k) = rT p v all a f ∧ X (6 + k) = qT q u all a f ∧ all.length ≤ 1048576

/-- The table between two steps: what lies in it. -/
structure Tab (w : World) (T : Nat) (X : Nat → Thing) (n : Nat) (fw fr : Nat → Prop) : Prop where
  fam : Fam w X
  bk : ∃ cs L V ls vs, X 8 = bookT T cs L V ls vs ∧ ls.length ≤ n ∧ (∀ k, k < 2 → fw k → SlotW cs X k) ∧ (∀ k, k < 2 → fr k → SlotR cs X k)
  tmp : ∀ i, 11 ≤ i → X i = nilT

/-- Within a step: X0 the things ahead of it. -/
structure St (w : World) (X0 X : Nat → Thing) (T : Nat) (cs : Array Value) (L V : Value) (ls vs : List Value) (a : Nat) (YA : Thing) (b : Nat) (YB : Thing) (g : Nat) (oc : Array Value) (x y l : Thing) : Prop where
  fam : Fam w X
  e8 : X 8 = bookT T cs L V ls vs
  eg : X 11 = boxT g oc 73
  ex : X 12 = x
  ey : X 13 = y
  el : X 14 = l
  ea : X a = YA
  eb : X b = YB
  oth : ∀ j, j < 11 → j ≠ 8 → j ≠ a → j ≠ b → X j = X0 j
  tmp : ∀ j, 15 ≤ j → X j = nilT
  ha : a < 8
  hb : b < 8
  hab : a ≠ b

section
variable {w w' : World} {X0 X X' : Nat → Thing} {T : Nat} {cs : Array Value} {L V : Value} {ls vs : List Value} {a b : Nat} {YA YB x y l : Thing} {g : Nat} {oc : Array Value}

theorem Tab.start {n : Nat} {fw fr : Nat → Prop} (h : Tab w T X n fw fr) (a b : Nat) (ha : a < 8) (hb : b < 8) (hab : a ≠ b) (oc : Array Value) (hX : X 8 = bookT T cs L V ls vs) :
    ∃ X1, St (w.alloc (.cells oc 73)) X X1 T cs L V ls vs a (X a) b (X b) w.heap.size oc nilT nilT nilT := by
  obtain ⟨X1, f1, e1, o1⟩ := h.fam.new 11 (boxT w.heap.size oc 73) (below_new w (.cells oc 73)) (at_new w _ _ ⟨rfl, rfl, rfl, rfl⟩) (fun k hk => Nat.le_of_eq hk.symm)
  exact ⟨X1, f1, (o1 8 (by decide)).trans hX, e1, (o1 12 (by decide)).trans (h.tmp 12 (by decide)), (o1 13 (by decide)).trans (h.tmp 13 (by decide)), (o1 14 (by decide)).trans (h.tmp 14 (by decide)),
    o1 a (by omega), o1 b (by omega), fun j hj _ _ _ => o1 j (by omega), fun j hj => (o1 j (by omega)).trans (h.tmp j (by omega)), ha, hb, hab⟩

theorem St.below (h : St w X0 X T cs L V ls vs a YA b YB g oc x y l) (hb : Below w.heap.size w w') : St w' X0 X T cs L V ls vs a YA b YB g oc x y l :=
  ⟨h.fam.below hb, h.e8, h.eg, h.ex, h.ey, h.el, h.ea, h.eb, h.oth, h.tmp, h.ha, h.hb, h.hab⟩
theorem St.lik (h : St w X0 X T cs L V ls vs a YA b YB g oc x y l) (hl : Lik w w') : St w' X0 X T cs L V ls vs a YA b YB g oc x y l := h.below (hl.below _)

theorem St.drew (h : St w X0 X T cs L V ls vs a YA b YB g oc x y l) : St w.drew X0 X T cs L V ls vs a YA b YB g oc x y l := h.lik ⟨rfl, rfl, rfl, rfl⟩

theorem St.setA (h : St w X0 X T cs L V ls vs a YA b YB g oc x y l) {Y : Thing} (hf : Fam w' X') (he : X' a = Y) (ho : ∀ j, j ≠ a → X' j = X j) : St w' X0 X' T cs L V ls vs a Y b YB g oc x y l := by
  have ha := h.ha
  have hb := h.hb
  have hab := h.hab
  exact ⟨hf, (ho 8 (by omega)).trans h.e8, (ho 11 (by omega)).trans h.eg, (ho 12 (by omega)).trans h.ex, (ho 13 (by omega)).trans h.ey, (ho 14 (by omega)).trans h.el, he, (ho b (by omega)).trans h.eb,
    fun j h1 h2 h3 h4 => (ho j h3).trans (h.oth j h1 h2 h3 h4), fun j hj => (ho j (by omega)).trans (h.tmp j hj), ha, hb, hab⟩
theorem St.setB (h : St w X0 X T cs L V ls vs a YA b YB g oc x y l) {Y : Thing} (hf : Fam w' X') (he : X' b = Y) (ho : ∀ j, j ≠ b → X' j = X j) : St w' X0 X' T cs L V ls vs a YA b Y g oc x y l := by
  have ha := h.ha
  have hb := h.hb
  have hab := h.hab
  exact ⟨hf, (ho 8 (by omega)).trans h.e8, (ho 11 (by omega)).trans h.eg, (ho 12 (by omega)).trans h.ex, (ho 13 (by omega)).trans h.ey, (ho 14 (by omega)).trans h.el, (ho a (by omega)).trans h.ea, he,
    fun j h1 h2 h3 h4 => (ho j h4).trans (h.oth j h1 h2 h3 h4), fun j hj => (ho j (by omega)).trans (h.tmp j hj), ha, hb, hab⟩
theorem St.setX (h : St w X0 X T cs L V ls vs a YA b YB g oc x y l) {Y : Thing} (hf : Fam w' X') (he : X' 12 = Y) (ho : ∀ j, j ≠ 12 → X' j = X j) : St w' X0 X' T cs L V ls vs a YA b YB g oc Y y l := by
  have ha := h.ha
  have hb := h.hb
  have hab := h.hab
  exact ⟨hf, (ho 8 (by omega)).trans h.e8, (ho 11 (by omega)).trans h.eg, he, (ho 13 (by omega)).trans h.ey, (ho 14 (by omega)).trans h.el, (ho a (by omega)).trans h.ea, (ho b (by omega)).trans h.eb,
    fun j h1 h2 h3 h4 => (ho j (by omega)).trans (h.oth j h1 h2 h3 h4), fun j hj => (ho j (by omega)).trans (h.tmp j hj), ha, hb, hab⟩
theorem St.setY (h : St w X0 X T cs L V ls vs a YA b YB g oc x y l) {Y : Thing} (hf : Fam w' X') (he : X' 13 = Y) (ho : ∀ j, j ≠ 13 → X' j = X j) : St w' X0 X' T cs L V ls vs a YA b YB g oc x Y l := by
  have ha := h.ha
  have hb := h.hb
  have hab := h.hab
  exact ⟨hf, (ho 8 (by omega)).trans h.e8, (ho 11 (by omega)).trans h.eg, (ho 12 (by omega)).trans h.ex, he, (ho 14 (by omega)).trans h.el, (ho a (by omega)).trans h.ea, (ho b (by omega)).trans h.eb,
    fun j h1 h2 h3 h4 => (ho j (by omega)).trans (h.oth j h1 h2 h3 h4), fun j hj => (ho j (by omega)).trans (h.tmp j hj), ha, hb, hab⟩
theorem St.setL (h : St w X0 X T cs L V ls vs a YA b YB g oc x y l) {Y : Thing} (hf : Fam w' X') (he : X' 14 = Y) (ho : ∀ j, j ≠ 14 → X' j = X j) : St w' X0 X' T cs L V ls vs a YA b YB g oc x y Y := by
  have ha := h.ha
  have hb := h.hb
  have hab := h.hab
  exact ⟨hf, (ho 8 (by omega)).trans h.e8, (ho 11 (by omega)).trans h.eg, (ho 12 (by omega)).trans h.ex, (ho 13 (by omega)).trans h.ey, he, (ho a (by omega)).trans h.ea, (ho b (by omega)).trans h.eb,
    fun j h1 h2 h3 h4 => (ho j (by omega)).trans (h.oth j h1 h2 h3 h4), fun j hj => (ho j (by omega)).trans (h.tmp j hj), ha, hb, hab⟩
theorem St.setT (h : St w X0 X T cs L V ls vs a YA b YB g oc x y l) {cs' : Array Value} {L' V' : Value} {ls' vs' : List Value} (hf : Fam w' X') (he : X' 8 = bookT T cs' L' V' ls' vs') (ho : ∀ j, j ≠ 8 → X' j = X j) : St w' X0 X' T cs' L' V' ls' vs' a YA b YB g oc x y l := by
  have ha := h.ha
  have hb := h.hb
  have hab := h.hab
  exact ⟨hf, he, (ho 11 (by omega)).trans h.eg, (ho 12 (by omega)).trans h.ex, (ho 13 (by omega)).trans h.ey, (ho 14 (by omega)).trans h.el, (ho a (by omega)).trans h.ea, (ho b (by omega)).trans h.eb,
    fun j h1 h2 h3 h4 => (ho j h2).trans (h.oth j h1 h2 h3 h4), fun j hj => (ho j (by omega)).trans (h.tmp j hj), ha, hb, hab⟩

theorem St.arg (h : St w X0 X T cs L V ls vs a YA b YB g oc x y l) : (X0 9).P w := by
  have ha := h.ha
  have hb := h.hb
  rw [← h.oth 9 (by decide) (by decide) (by omega) (by omega)]; exact h.fam.P 9
theorem St.bk (h : St w X0 X T cs L V ls vs a YA b YB g oc x y l) : Bk w T cs L V ls vs := (h.fam.at h.e8).1
theorem St.en (h : St w X0 X T cs L V ls vs a YA b YB g oc x y l) : Ents w ls vs := (h.fam.at h.e8).2
theorem St.box (h : St w X0 X T cs L V ls vs a YA b YB g oc x y l) : w.heap[g]? = some (.cells oc 73) := h.fam.at h.eg
theorem St.pa (h : St w X0 X T cs L V ls vs a YA b YB g oc x y l) : YA.P w := h.fam.at h.ea
theorem St.pb (h : St w X0 X T cs L V ls vs a YA b YB g oc x y l) : YB.P w := h.fam.at h.eb
theorem St.px (h : St w X0 X T cs L V ls vs a YA b YB g oc x y l) : x.P w := h.fam.at h.ex
theorem St.py (h : St w X0 X T cs L V ls vs a YA b YB g oc x y l) : y.P w := h.fam.at h.ey
theorem St.pl (h : St w X0 X T cs L V ls vs a YA b YB g oc x y l) : l.P w := h.fam.at h.el

/-- A cell of the table. -/
theorem St.cell (h : St w X0 X T cs L V ls vs a YA b YB g oc x y l) {o : Nat} {u : Value} (hc : cs[o]? = some u) : w.cell? ⟨T, o, none⟩ = some u ∧ w.frozen? ⟨T, o, none⟩ = false := by
  refine ⟨?_, ?_⟩ <;> simp [World.cell?, World.frozen?, h.bk.blk, hc]
/-- A field of the step. -/
theorem St.field (h : St w X0 X T cs L V ls vs a YA b YB g oc x y l) {o : Nat} {u : Value} (hc : oc[o]? = some u) : w.cell? ⟨g, o, none⟩ = some u := by
  simp [World.cell?, h.box, hc]

/-- The step's own blocks are let go. -/
theorem St.finish (h : St w X0 X T cs L V ls vs a YA b YB g oc nilT nilT nilT) (h0 : ∀ i, 11 ≤ i → X0 i = nilT) : ∃ X', Fam w X' ∧ X' 8 = bookT T cs L V ls vs ∧ X' a = YA ∧ X' b = YB ∧ (∀ j, j ≠ 8 → j ≠ a → j ≠ b → X' j = X0 j) ∧ ∀ j, 11 ≤ j → X' j = nilT := by
  have ha := h.ha
  have hb := h.hb
  obtain ⟨X', f, e, o⟩ := h.fam.drop 11
  have t : ∀ j, 11 ≤ j → X' j = nilT := fun j hj => by
    by_cases h1 : j = 11
    · rw [h1]; exact e
    · rw [o j h1]
      by_cases h2 : j = 12
      · rw [h2]; exact h.ex
      · by_cases h3 : j = 13
        · rw [h3]; exact h.ey
        · by_cases h4 : j = 14
          · rw [h4]; exact h.el
          · exact h.tmp j (by omega)
  refine ⟨X', f, (o 8 (by decide)).trans h.e8, (o a (by omega)).trans h.ea, (o b (by omega)).trans h.eb, fun j h1 h2 h3 => ?_, t⟩
  by_cases hj : j < 11
  · rw [o j (by omega)]; exact h.oth j hj h1 h2 h3
  · rw [t j (by omega), h0 j (by omega)]

end

/-- A writer's step leaves a table. -/
theorem St.doneW {w w' : World} {X0 X : Nat → Thing} {T : Nat} {cs cs' : Array Value} {L V L' V' : Value} {ls vs ls' vs' : List Value} {k p q most g n n' : Nat} {v u : Value} {bs : List UInt8} {f : Int} {oc : Array Value} {fw fw' fr : Nat → Prop}
    (h : St w' X0 X T cs' L' V' ls' vs' k (wT p v most bs f) (2 + k) (vT q u most bs f) g oc nilT nilT nilT) (h0 : Tab w T X0 n fw fr) (_hX : X0 8 = bookT T cs L V ls vs) (hk : k < 2) (hn : ls'.length ≤ n')
    (hs : ∀ j, j < 2 → fw j → SlotW cs X0 j) (hr : ∀ j, j < 2 → fr j → SlotR cs X0 j)
    (hc : ∀ i, i < 8 → i ≠ k → i ≠ 2 + k → cs'[i]? = cs[i]?) (c1 : cs'[k]? = some (.pointer (some ⟨p, 0, none⟩))) (c2 : cs'[2 + k]? = some (.pointer (some ⟨q, 0, none⟩))) (hm : most ≤ 1048576) (hb : bs.length ≤ most)
    (hfw : ∀ j, j < 2 → j ≠ k → fw' j → fw j) : ∃ X', Tab w' T X' n' fw' fr ∧ ∀ i, 9 ≤ i → X' i = X0 i := by
  obtain ⟨X', f', e8, ea, eb, o, t⟩ := h.finish h0.tmp
  refine ⟨X', ⟨f', ⟨cs', L', V', ls', vs', e8, hn, fun j hj hf => ?_, fun j hj hf => ?_⟩, t⟩, fun i hi => o i (by omega) (by omega) (by omega)⟩
  · by_cases hjk : j = k
    · subst hjk
      exact ⟨p, v, q, u, most, bs, f, c1, c2, ea, eb, hm, hb⟩
    · obtain ⟨p', v', q', u', m', b', f'', a1, a2, a3, a4, a5⟩ := hs j hj (hfw j hj hjk hf)
      exact ⟨p', v', q', u', m', b', f'', (hc j (by omega) hjk (by omega)).trans a1, (hc (2 + j) (by omega) (by omega) (by omega)).trans a2, (o j (by omega) hjk (by omega)).trans a3, (o (2 + j) (by omega) (by omega) (by omega)).trans a4, a5⟩
  · obtain ⟨p', v', q', u', m', b', f'', a1, a2, a3, a4, a5⟩ := hr j hj hf
    exact ⟨p', v', q', u', m', b', f'', (hc (4 + j) (by omega) (by omega) (by omega)).trans a1, (hc (6 + j) (by omega) (by omega) (by omega)).trans a2, (o (4 + j) (by omega) (by omega) (by omega)).trans a3, (o (6 + j) (by omega) (by omega) (by omega)).trans a4, a5⟩

/-- A reader's step leaves a table. -/
theorem St.doneR {w w' : World} {X0 X : Nat → Thing} {T : Nat} {cs cs' : Array Value} {L V L' V' : Value} {ls vs ls' vs' : List Value} {k p q at_ g n n' : Nat} {v u : Value} {all : List UInt8} {f : Int} {oc : Array Value} {fw fr fr' : Nat → Prop}
    (h : St w' X0 X T cs' L' V' ls' vs' (4 + k) (rT p v all at_ f) (6 + k) (qT q u all at_ f) g oc nilT nilT nilT) (h0 : Tab w T X0 n fw fr) (_hX : X0 8 = bookT T cs L V ls vs) (hk : k < 2) (hn : ls'.length ≤ n')
    (hs : ∀ j, j < 2 → fw j → SlotW cs X0 j) (hr : ∀ j, j < 2 → fr j → SlotR cs X0 j)
    (hc : ∀ i, i < 8 → i ≠ 4 + k → i ≠ 6 + k → cs'[i]? = cs[i]?) (c1 : cs'[4 + k]? = some (.pointer (some ⟨p, 0, none⟩))) (c2 : cs'[6 + k]? = some (.pointer (some ⟨q, 0, none⟩))) (hm : all.length ≤ 1048576)
    (hfr : ∀ j, j < 2 → j ≠ k → fr' j → fr j) : ∃ X', Tab w' T X' n' fw fr' ∧ ∀ i, 9 ≤ i → X' i = X0 i := by
  obtain ⟨X', f', e8, ea, eb, o, t⟩ := h.finish h0.tmp
  refine ⟨X', ⟨f', ⟨cs', L', V', ls', vs', e8, hn, fun j hj hf => ?_, fun j hj hf => ?_⟩, t⟩, fun i hi => o i (by omega) (by omega) (by omega)⟩
  · obtain ⟨p', v', q', u', m', b', f'', a1, a2, a3, a4, a5⟩ := hs j hj hf
    exact ⟨p', v', q', u', m', b', f'', (hc j (by omega) (by omega) (by omega)).trans a1, (hc (2 + j) (by omega) (by omega) (by omega)).trans a2, (o j (by omega) (by omega) (by omega)).trans a3, (o (2 + j) (by omega) (by omega) (by omega)).trans a4, a5⟩
  · by_cases hjk : j = k
    · subst hjk
      exact ⟨p, v, q, u, all, at_, f, c1, c2, ea, eb, hm⟩
    · obtain ⟨p', v', q', u', m', b', f'', a1, a2, a3, a4, a5⟩ := hr j hj (hfr j hj hjk hf)
      exact ⟨p', v', q', u', m', b', f'', (hc (4 + j) (by omega) (by omega) (by omega)).trans a1, (hc (6 + j) (by omega) (by omega) (by omega)).trans a2, (o (4 + j) (by omega) (by omega) (by omega)).trans a3, (o (6 + j) (by omega) (by omega) (by omega)).trans a4, a5⟩

section
variable {w w' : World} {X0 X X' : Nat → Thing} {T : Nat} {cs : Array Value} {L V : Value} {ls vs : List Value} {a b : Nat} {YA YB x y l : Thing} {g : Nat} {oc : Array Value}

theorem St.roomX (h : St w X0 X T cs L V ls vs a YA b YB g oc x y l) (v : Value) (bs : List UInt8) (hv : Has w v bs) (hn : bs.length ≤ 1048576) :
    Calls Try.prog 45 #[v] w fun e w' => ∃ rs ao cap X', Hid (rs = bs ++ marks) ∧ e = .returned (.slice ao rs.length cap) ∧ St w' X0 X' T cs L V ls vs a YA b YB g oc (rowT (.slice ao rs.length cap) rs) y l := by
  refine (room_any v bs w hv (by omega)).mono ?_
  rintro e w' ⟨rs, ao, cap, hrs, rfl, ho, hb⟩
  obtain ⟨X', f, e, o⟩ := h.fam.new 12 (rowT (.slice ao rs.length cap) rs) hb (ho.weaken (Nat.zero_le _)) ho.ownBlock
  exact ⟨rs, ao, cap, X', hrs, rfl, h.setX f e o⟩
theorem St.roomY (h : St w X0 X T cs L V ls vs a YA b YB g oc x y l) (v : Value) (bs : List UInt8) (hv : Has w v bs) (hn : bs.length ≤ 1048576) :
    Calls Try.prog 45 #[v] w fun e w' => ∃ rs ao cap X', Hid (rs = bs ++ marks) ∧ e = .returned (.slice ao rs.length cap) ∧ St w' X0 X' T cs L V ls vs a YA b YB g oc x (rowT (.slice ao rs.length cap) rs) l := by
  refine (room_any v bs w hv (by omega)).mono ?_
  rintro e w' ⟨rs, ao, cap, hrs, rfl, ho, hb⟩
  obtain ⟨X', f, e, o⟩ := h.fam.new 13 (rowT (.slice ao rs.length cap) rs) hb (ho.weaken (Nat.zero_le _)) ho.ownBlock
  exact ⟨rs, ao, cap, X', hrs, rfl, h.setY f e o⟩

theorem St.keptX {xv : Value} {rs : List UInt8} (h : St w X0 X T cs L V ls vs a YA b YB g oc (rowT xv rs) y l) (v : Value) (bs : List UInt8) (hv : Has w v bs) (hn : bs.length ≤ 1048576) (he : rs = bs ++ marks) :
    Calls Try.prog 52 #[xv, v] w fun e w' => e = .returned (.bool true) ∧ St w' X0 X T cs L V ls vs a YA b YB g oc (rowT xv rs) y l :=
  (kept_any xv v rs bs w (Own.has h.px) hv (by omega) he).mono fun e w' ⟨h1, h2⟩ => ⟨h1, h.below h2⟩
theorem St.keptY {yv : Value} {rs : List UInt8} (h : St w X0 X T cs L V ls vs a YA b YB g oc x (rowT yv rs) l) (v : Value) (bs : List UInt8) (hv : Has w v bs) (hn : bs.length ≤ 1048576) (he : rs = bs ++ marks) :
    Calls Try.prog 52 #[yv, v] w fun e w' => e = .returned (.bool true) ∧ St w' X0 X T cs L V ls vs a YA b YB g oc x (rowT yv rs) l :=
  (kept_any yv v rs bs w (Own.has h.py) hv (by omega) he).mono fun e w' ⟨h1, h2⟩ => ⟨h1, h.below h2⟩
theorem St.spoilX {xv : Value} {rs : List UInt8} (h : St w X0 X T cs L V ls vs a YA b YB g oc (rowT xv rs) y l) (bs : List UInt8) (hn : bs.length ≤ 1048576) (he : rs = bs ++ marks) :
    Calls Try.prog 53 #[xv] w fun e w' => e = .returned (.tuple #[]) ∧ ∃ X', St w' X0 X' T cs L V ls vs a YA b YB g oc nilT y l := by
  have hl : rs.length = bs.length + 3 := by rw [he]; simp [marks]
  refine (spoil_fam h.fam 12 h.ex (by omega) (by omega)).mono ?_
  rintro e w' ⟨rfl, X', f, e, o⟩
  exact ⟨rfl, X', h.setX f e o⟩
theorem St.spoilY {yv : Value} {rs : List UInt8} (h : St w X0 X T cs L V ls vs a YA b YB g oc x (rowT yv rs) l) (bs : List UInt8) (hn : bs.length ≤ 1048576) (he : rs = bs ++ marks) :
    Calls Try.prog 53 #[yv] w fun e w' => e = .returned (.tuple #[]) ∧ ∃ X', St w' X0 X' T cs L V ls vs a YA b YB g oc x nilT l := by
  have hl : rs.length = bs.length + 3 := by rw [he]; simp [marks]
  refine (spoil_fam h.fam 13 h.ey (by omega) (by omega)).mono ?_
  rintro e w' ⟨rfl, X', f, e, o⟩
  exact ⟨rfl, X', h.setY f e o⟩
theorem St.note {lv : Value} {bs : List UInt8} (h : St w X0 X T cs L V ls vs a YA b YB g oc x y (rowT lv bs)) (hbs : bs.length ≤ 100000000) (hn : ls.length ≤ 1000) :
    Calls Try.prog 51 #[.pointer (some ⟨T, 8, none⟩), lv] w fun e w' => e = .returned (.tuple #[]) ∧ ∃ X' cs' L' V' ls' vs', St w' X0 X' T cs' L' V' ls' vs' a YA b YB g oc x y nilT ∧ (∀ i, i < 8 → cs'[i]? = cs[i]?) ∧ ls'.length = ls.length + 2 := by
  have ha := h.ha
  have hb := h.hb
  refine (note_fam h.fam h.e8 14 (by decide) h.el hbs hn).mono ?_
  rintro e w' ⟨rfl, X', cs', L', V', ls', vs', f, e8, e14, o, hc, hl⟩
  refine ⟨rfl, X', cs', L', V', ls', vs', ⟨f, e8, (o 11 (by decide) (by decide)).trans h.eg, (o 12 (by decide) (by decide)).trans h.ex, (o 13 (by decide) (by decide)).trans h.ey, e14, (o a (by omega) (by omega)).trans h.ea, (o b (by omega) (by omega)).trans h.eb,
    fun j h1 h2 h3 h4 => (o j h2 (by omega)).trans (h.oth j h1 h2 h3 h4), fun j hj => (o j (by omega) (by omega)).trans (h.tmp j hj), ha, hb, h.hab⟩, hc, hl⟩
theorem St.wx {p most : Nat} {v : Value} {bs bs' : List UInt8} {f f' : Int} (h : St w X0 X T cs L V ls vs a (wT p v most bs f) b YB g oc x y l) (hw : Wx w w' p v most bs' f') : ∃ X' v', St w' X0 X' T cs L V ls vs a (wT p v' most bs' f') b YB g oc x y l := by
  obtain ⟨X', v', f, e, o⟩ := h.fam.wx h.ea hw
  exact ⟨X', v', h.setA f e o⟩
theorem St.vx {p most : Nat} {v : Value} {bs bs' : List UInt8} {f f' : Int} (h : St w X0 X T cs L V ls vs a YA b (vT p v most bs f) g oc x y l) (hw : Vx w w' p v most bs' f') : ∃ X' v', St w' X0 X' T cs L V ls vs a YA b (vT p v' most bs' f') g oc x y l := by
  obtain ⟨X', v', f, e, o⟩ := h.fam.vx h.eb hw
  exact ⟨X', v', h.setB f e o⟩
theorem St.rx {p at_ at' : Nat} {v : Value} {all : List UInt8} {f f' : Int} (h : St w X0 X T cs L V ls vs a (rT p v all at_ f) b YB g oc x y l) (hr : Rd w' p v all at' f') (hf : Frm p w w') : ∃ X', St w' X0 X' T cs L V ls vs a (rT p v all at' f') b YB g oc x y l := by
  obtain ⟨X', f, e, o⟩ := h.fam.rx h.ea hr hf
  exact ⟨X', h.setA f e o⟩
theorem St.qx {p at_ at' : Nat} {v : Value} {all : List UInt8} {f f' : Int} (h : St w X0 X T cs L V ls vs a YA b (qT p v all at_ f) g oc x y l) (hr : Qd w' p v all at' f') (hf : Frm p w w') : ∃ X', St w' X0 X' T cs L V ls vs a YA b (qT p v all at' f') g oc x y l := by
  obtain ⟨X', f, e, o⟩ := h.fam.qx h.eb hr hf
  exact ⟨X', h.setB f e o⟩
theorem St.put (h : St w X0 X T cs L V ls vs a YA b YB g oc x y l) (o : Nat) (ho : o < 8) (u : Value) : ∃ X', St (w.setCell ⟨T, o, none⟩ u) X0 X' T (cs.setIfInBounds o u) L V ls vs a YA b YB g oc x y l := by
  obtain ⟨X', f, e, o⟩ := h.fam.cell h.e8 o ho u
  exact ⟨X', h.setT f e o⟩

end

end Go.Proofs.Ytgfgabgnejnipaa
