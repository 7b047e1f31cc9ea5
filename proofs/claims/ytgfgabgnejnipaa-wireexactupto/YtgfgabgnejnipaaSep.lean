import Derived.Test.YtgfgabgnejnipaaJot
namespace Go.Proofs.Ytgfgabgnejnipaa
open Go.RowKit

/-- What lies in some blocks of the heap: what is true of the world, and which blocks it hangs on. -/
structure Thing where
  P : World → Prop
  F : Nat → Prop
  st : ∀ {S : Nat → Prop} {w w' : World}, P w → Fx S w w' → (∀ k, F k → ¬ S k) → P w'
  lt : ∀ {w : World}, P w → ∀ k, F k → k < w.heap.size

/-- Things that lie apart. -/
structure Fam (w : World) (X : Nat → Thing) : Prop where
  P : ∀ i, (X i).P w
  ap : ∀ i j, i ≠ j → ∀ k, (X i).F k → ¬ (X j).F k

def nilT : Thing := ⟨fun _ => True, fun _ => False, fun _ _ _ => trivial, fun _ _ h => h.elim⟩

theorem Fam.at {w : World} {X : Nat → Thing} (h : Fam w X) {i : Nat} {Y : Thing} (hi : X i = Y) : Y.P w := hi ▸ h.P i
theorem Fam.no {w : World} {X : Nat → Thing} (h : Fam w X) {i j : Nat} {Y Z : Thing} (hi : X i = Y) (hj : X j = Z) (hij : i ≠ j) {k : Nat} (hk : Y.F k) : ¬ Z.F k := by
  subst hi hj; exact h.ap i j hij k hk

/-- A thing is turned, in its own blocks and new ones. -/
theorem Fam.turn {w w' : World} {X : Nat → Thing} (h : Fam w X) (i : Nat) (Y Z : Thing) (hi : X i = Z) {S : Nat → Prop} (hf : Fx S w w') (hS : ∀ k, k < w.heap.size → S k → Z.F k) (hP : Y.P w') (hF : ∀ k, Y.F k → Z.F k ∨ w.heap.size ≤ k) :
    ∃ X', Fam w' X' ∧ X' i = Y ∧ ∀ j, j ≠ i → X' j = X j := by
  subst hi
  have hY : ∀ j, j ≠ i → ∀ k, (X j).F k → ¬ Y.F k := fun j hj k h1 h2 => by
    rcases hF k h2 with h3 | h3
    · exact h.ap j i hj k h1 h3
    · have := (X j).lt (h.P j) k h1; omega
  have h0 : ∀ j, j ≠ i → ∀ k, (X j).F k → ¬ S k := fun j hj k h1 h2 => h.ap j i hj k h1 (hS k ((X j).lt (h.P j) k h1) h2)
  refine ⟨fun j => if j = i then Y else X j, ⟨fun j => ?_, fun j l hjl k => ?_⟩, by simp, fun j hj => by simp [hj]⟩
  · by_cases hj : j = i
    · simp only [hj, if_true]; exact hP
    · simp only [hj, if_false]; exact (X j).st (h.P j) hf (h0 j hj)
  · by_cases hj : j = i
    · have hl : ¬ l = i := fun e => hjl (hj.trans e.symm)
      simp only [hj, hl, if_true, if_false]
      exact fun h1 h2 => hY l hl k h2 h1
    · by_cases hl : l = i
      · simp only [hj, hl, if_true, if_false]
        exact hY j hj k
      · simp only [hj, hl, if_false]
        exact h.ap j l hjl k

/-- Two things are turned into one. -/
theorem Fam.into {w w' : World} {X : Nat → Thing} (h : Fam w X) (i l : Nat) (Y Z Z2 : Thing) (hi : X i = Z) (hl : X l = Z2) (hil : i ≠ l) {S : Nat → Prop} (hf : Fx S w w') (hS : ∀ k, k < w.heap.size → S k → Z.F k ∨ Z2.F k) (hP : Y.P w') (hF : ∀ k, Y.F k → Z.F k ∨ Z2.F k ∨ w.heap.size ≤ k) :
    ∃ X', Fam w' X' ∧ X' i = Y ∧ X' l = nilT ∧ ∀ j, j ≠ i → j ≠ l → X' j = X j := by
  subst hi hl
  have hY : ∀ j, j ≠ i → j ≠ l → ∀ k, (X j).F k → ¬ Y.F k := fun j hj hj2 k h1 h2 => by
    rcases hF k h2 with h3 | h3 | h3
    · exact h.ap j i hj k h1 h3
    · exact h.ap j l hj2 k h1 h3
    · have := (X j).lt (h.P j) k h1; omega
  have h0 : ∀ j, j ≠ i → j ≠ l → ∀ k, (X j).F k → ¬ S k := fun j hj hj2 k h1 h2 => by
    rcases hS k ((X j).lt (h.P j) k h1) h2 with h3 | h3
    · exact h.ap j i hj k h1 h3
    · exact h.ap j l hj2 k h1 h3
  have hli : ¬ l = i := fun e => hil e.symm
  refine ⟨fun j => if j = i then Y else if j = l then nilT else X j, ⟨fun j => ?_, fun a b hab k => ?_⟩, by simp, by simp [hli], fun j hj hj2 => by simp [hj, hj2]⟩
  · by_cases hj : j = i
    · simp only [hj, if_true]; exact hP
    · by_cases hj2 : j = l
      · simp only [hj2, hli, if_true, if_false]; exact trivial
      · simp only [hj, hj2, if_false]; exact (X j).st (h.P j) hf (h0 j hj hj2)
  · by_cases ha2 : a = l
    · simp only [ha2, hli, if_true, if_false]; exact fun h1 => h1.elim
    · by_cases hb2 : b = l
      · simp only [hb2, hli, if_true, if_false]; exact fun _ h1 => h1
      · by_cases ha : a = i
        · have hb : ¬ b = i := fun e => hab (ha.trans e.symm)
          simp only [ha, hb, hb2, if_true, if_false]
          exact fun h1 h2 => hY b hb hb2 k h2 h1
        · by_cases hb : b = i
          · simp only [ha, ha2, hb, if_true, if_false]
            exact hY a ha ha2 k
          · simp only [ha, ha2, hb, hb2, if_false]
            exact h.ap a b hab k

theorem Fam.below {w w' : World} {X : Nat → Thing} (h : Fam w X) (hb : Below w.heap.size w w') : Fam w' X :=
  ⟨fun i => (X i).st (h.P i) (Fx.of_below (S := fun _ => False) hb) (fun _ _ s => s), h.ap⟩
theorem Fam.lik {w w' : World} {X : Nat → Thing} (h : Fam w X) (hl : Lik w w') : Fam w' X := h.below (hl.below _)

/-- A new thing, in the place of whatever. -/
theorem Fam.new {w w' : World} {X : Nat → Thing} (h : Fam w X) (i : Nat) (Y : Thing) (hb : Below w.heap.size w w') (hP : Y.P w') (hF : ∀ k, Y.F k → w.heap.size ≤ k) :
    ∃ X', Fam w' X' ∧ X' i = Y ∧ ∀ j, j ≠ i → X' j = X j :=
  h.turn i Y (X i) rfl (Fx.of_below (S := fun _ => False) hb) (fun _ _ s => s.elim) hP (fun k hk => .inr (hF k hk))

theorem Fam.drop {w : World} {X : Nat → Thing} (h : Fam w X) (i : Nat) : ∃ X', Fam w X' ∧ X' i = nilT ∧ ∀ j, j ≠ i → X' j = X j :=
  h.turn i nilT (X i) rfl (Fx.refl (fun _ => False) w) (fun _ _ s => s.elim) trivial (fun _ h => h.elim)

/-- A thing takes another's place. -/
theorem Fam.move {w : World} {X : Nat → Thing} (h : Fam w X) (i l : Nat) (hil : i ≠ l) (Y : Thing) (hl : X l = Y) : ∃ X', Fam w X' ∧ X' i = Y ∧ X' l = nilT ∧ ∀ j, j ≠ i → j ≠ l → X' j = X j :=
  h.into i l Y (X i) Y rfl hl hil (Fx.refl (fun _ => False) w) (fun _ _ s => s.elim) (h.at hl) (fun _ hk => .inr (.inl hk))

/-- Bytes in a row of their own. -/
def rowT (v : Value) (bs : List UInt8) : Thing := ⟨fun w => Own w 0 v bs, fun k => v.ownBlock = some k, fun h hf hd => h.fx hf hd, fun h => h.lt⟩
/-- A block. -/
def boxT (g : Nat) (c : Array Value) (ty : TypeId) : Thing := ⟨fun w => w.heap[g]? = some (.cells c ty), fun k => k = g, fun {S w w'} h hf hd => (hf.block g (block_lt h) (hd g rfl)).trans h, fun h k hk => by subst hk; exact block_lt h⟩
def wT (p : Nat) (v : Value) (most : Nat) (bs : List UInt8) (f : Int) : Thing :=
  ⟨fun w => Wr w p v most bs f, Foot p v, fun h hf hd => ⟨(hf.block p h.lt (hd p (.inl rfl))).trans h.1, h.2.fx hf (fun k hk => hd k (.inr hk))⟩, fun h _ hk => h.foot hk⟩
def vT (p : Nat) (v : Value) (most : Nat) (bs : List UInt8) (f : Int) : Thing :=
  ⟨fun w => Vr w p v most bs f, Foot p v, fun h hf hd => ⟨(hf.block p h.lt (hd p (.inl rfl))).trans h.1, h.2.fx hf (fun k hk => hd k (.inr hk))⟩, fun h _ hk => h.foot hk⟩
def rT (p : Nat) (v : Value) (all : List UInt8) (a : Nat) (f : Int) : Thing :=
  ⟨fun w => Rd w p v all a f ∧ Own w 0 v all, Foot p v, fun h hf hd => ⟨⟨(hf.block p h.1.lt (hd p (.inl rfl))).trans h.1.1, h.1.2.1.fx hf (fun k _ hk => hd k (.inr hk)), h.1.2.2⟩, h.2.fx hf (fun k hk => hd k (.inr hk))⟩, fun h k hk => by
    rcases hk with rfl | hk
    · exact h.1.lt
    · exact h.2.lt k hk⟩
def qT (p : Nat) (v : Value) (all : List UInt8) (a : Nat) (f : Int) : Thing :=
  ⟨fun w => Qd w p v all a f ∧ Own w 0 v all, Foot p v, fun h hf hd => ⟨⟨(hf.block p h.1.lt (hd p (.inl rfl))).trans h.1.1, h.1.2.1.fx hf (fun k _ hk => hd k (.inr hk)), h.1.2.2⟩, h.2.fx hf (fun k hk => hd k (.inr hk))⟩, fun h k hk => by
    rcases hk with rfl | hk
    · exact h.1.lt
    · exact h.2.lt k hk⟩
/-- The table and its book. -/
def bookF (T : Nat) (L V : Value) (ls vs : List Value) : Nat → Prop := fun k => k = T ∨ L.ownBlock = some k ∨ V.ownBlock = some k ∨ ∃ u, (u ∈ ls ∨ u ∈ vs) ∧ u.ownBlock = some k
def bookT (T : Nat) (cs : Array Value) (L V : Value) (ls vs : List Value) : Thing :=
  ⟨fun w => Bk w T cs L V ls vs ∧ Ents w ls vs, bookF T L V ls vs, fun h hf hd => ⟨h.1.fx hf (hd T (.inl rfl)) (fun k hk => hd k (.inr (.inl hk))) (fun k hk => hd k (.inr (.inr (.inl hk)))), h.2.fx hf (fun u hu k hk => hd k (.inr (.inr (.inr ⟨u, hu, hk⟩))))⟩, fun h k hk => by
    rcases hk with rfl | hk | hk | ⟨u, hu, hk⟩
    · exact h.1.lt
    · exact h.1.ol.lt k hk
    · exact h.1.ov.lt k hk
    · obtain ⟨cur, hc⟩ := h.2.type u hu k hk
      exact block_lt hc⟩
/-- What lay there at first. -/
def inT (w0 : World) : Thing :=
  ⟨fun w => Below w0.heap.size w0 w, fun k => k < w0.heap.size, fun h hf hd => ⟨hf.os.trans h.os, hf.tape.trans h.tape, hf.output.trans h.output, Nat.le_trans h.size hf.size, fun k hk => (hf.block k (Nat.lt_of_lt_of_le hk h.size) (hd k hk)).trans (h.block k hk)⟩, fun h _ hk => Nat.lt_of_lt_of_le hk h.size⟩

theorem Fam.wx {w w' : World} {X : Nat → Thing} (h : Fam w X) {i p : Nat} {v : Value} {most : Nat} {bs bs' : List UInt8} {f f' : Int} (hi : X i = wT p v most bs f) (hw : Wx w w' p v most bs' f') :
    ∃ X' v', Fam w' X' ∧ X' i = wT p v' most bs' f' ∧ ∀ j, j ≠ i → X' j = X j := by
  obtain ⟨v', h1, h2, h3⟩ := hw
  obtain ⟨X', a, b, c⟩ := h.turn i (wT p v' most bs' f') _ hi h2 (fun _ _ s => s) h1 (fun k hk => by
    rcases hk with hk | hk
    · exact .inl (.inl hk)
    · rcases h3 k hk with h4 | h4
      · exact .inl (.inr h4)
      · exact .inr h4)
  exact ⟨X', v', a, b, c⟩

theorem Fam.vx {w w' : World} {X : Nat → Thing} (h : Fam w X) {i p : Nat} {v : Value} {most : Nat} {bs bs' : List UInt8} {f f' : Int} (hi : X i = vT p v most bs f) (hw : Vx w w' p v most bs' f') :
    ∃ X' v', Fam w' X' ∧ X' i = vT p v' most bs' f' ∧ ∀ j, j ≠ i → X' j = X j := by
  obtain ⟨v', h1, h2, h3⟩ := hw
  obtain ⟨X', a, b, c⟩ := h.turn i (vT p v' most bs' f') _ hi h2 (fun _ _ s => s) h1 (fun k hk => by
    rcases hk with hk | hk
    · exact .inl (.inl hk)
    · rcases h3 k hk with h4 | h4
      · exact .inl (.inr h4)
      · exact .inr h4)
  exact ⟨X', v', a, b, c⟩

theorem Fam.rx {w w' : World} {X : Nat → Thing} (h : Fam w X) {i p : Nat} {v : Value} {all : List UInt8} {a a' : Nat} {f f' : Int} (hi : X i = rT p v all a f) (hr : Rd w' p v all a' f') (hf : Frm p w w') :
    ∃ X', Fam w' X' ∧ X' i = rT p v all a' f' ∧ ∀ j, j ≠ i → X' j = X j := by
  have h0 := h.at hi
  refine h.turn i (rT p v all a' f') _ hi (Fx.of_frm (S := fun k => k = p) hf rfl) (fun k _ s => .inl s) ⟨hr, h0.2.fx (Fx.of_frm (S := fun k => k = p) hf rfl) (fun k hk e => ?_)⟩ (fun k hk => .inl hk)
  subst e
  obtain ⟨cur, hc⟩ := h0.2.type k hk
  rw [h0.1.1] at hc; simp at hc

theorem Fam.qx {w w' : World} {X : Nat → Thing} (h : Fam w X) {i p : Nat} {v : Value} {all : List UInt8} {a a' : Nat} {f f' : Int} (hi : X i = qT p v all a f) (hr : Qd w' p v all a' f') (hf : Frm p w w') :
    ∃ X', Fam w' X' ∧ X' i = qT p v all a' f' ∧ ∀ j, j ≠ i → X' j = X j := by
  have h0 := h.at hi
  refine h.turn i (qT p v all a' f') _ hi (Fx.of_frm (S := fun k => k = p) hf rfl) (fun k _ s => .inl s) ⟨hr, h0.2.fx (Fx.of_frm (S := fun k => k = p) hf rfl) (fun k hk e => ?_)⟩ (fun k hk => .inl hk)
  subst e
  obtain ⟨cur, hc⟩ := h0.2.type k hk
  rw [h0.1.1] at hc; simp at hc

/-- A cell of the table is written. -/
theorem Fam.cell {w : World} {X : Nat → Thing} (h : Fam w X) {i T : Nat} {cs : Array Value} {L V : Value} {ls vs : List Value} (hi : X i = bookT T cs L V ls vs) (o : Nat) (ho : o < 8) (u : Value) :
    ∃ X', Fam (w.setCell ⟨T, o, none⟩ u) X' ∧ X' i = bookT T (cs.setIfInBounds o u) L V ls vs ∧ ∀ j, j ≠ i → X' j = X j := by
  obtain ⟨b, e⟩ := h.at hi
  have f : Fx (fun k => k = T) w (w.setCell ⟨T, o, none⟩ u) := Fx.setCell (S := fun k => k = T) w T o u rfl
  have hL : ∀ k, L.ownBlock = some k → ¬ k = T := fun k hk e => by subst e; exact b.nl hk
  have hV : ∀ k, V.ownBlock = some k → ¬ k = T := fun k hk e => by subst e; exact b.nv hk
  refine h.turn i (bookT T (cs.setIfInBounds o u) L V ls vs) _ hi f (fun k _ s => .inl s) ⟨⟨setCell_block w T o u b.blk, by simp [b.siz], by rw [get_set (by omega)]; exact b.l8, by rw [get_set (by omega)]; exact b.v9, b.ol.fx f hL, b.ov.fx f hV, b.lv⟩, e.fx f (fun u hu k hk e2 => ?_)⟩ (fun k hk => .inl hk)
  subst e2
  obtain ⟨cur, hc⟩ := e.type u hu k hk
  rw [b.blk] at hc; simp at hc

/-- What was handed out is noted: its row is the book's from now on. -/
theorem note_fam {w : World} {X : Nat → Thing} (h : Fam w X) {T : Nat} {cs : Array Value} {L V lv : Value} {ls vs : List Value} {bs : List UInt8} (hi : X 8 = bookT T cs L V ls vs) (l : Nat) (hl8 : 8 ≠ l) (hl : X l = rowT lv bs) (hbs : bs.length ≤ 100000000) (hn : ls.length ≤ 1000) :
    Calls Try.prog 51 #[.pointer (some ⟨T, 8, none⟩), lv] w fun e w' => e = .returned (.tuple #[]) ∧ ∃ X' cs' L' V' ls' vs', Fam w' X' ∧ X' 8 = bookT T cs' L' V' ls' vs' ∧ X' l = nilT ∧ (∀ j, j ≠ 8 → j ≠ l → X' j = X j) ∧ (∀ i, i < 8 → cs'[i]? = cs[i]?) ∧ ls'.length = ls.length + 2 := by
  obtain ⟨b, e⟩ := h.at hi
  have ho := h.at hl
  refine (jot_any T cs L V lv ls vs bs w b e ho hbs hn (fun u hu k h1 h2 => ?_)).mono ?_
  · exact h.no hi hl hl8 (k := k) (.inr (.inr (.inr ⟨u, hu, h1⟩))) h2
  · rintro e w' ⟨rfl, cs', L', V', l2, v1, v2, b', e', hpre, hf, nL, nV, nl, n1, n2⟩
    have nn : ∀ {x : Value} {k : Nat}, Nw w (.slice none 0 0) x → x.ownBlock = some k → w.heap.size ≤ k := fun hx hk => by
      rcases hx _ hk with h | h
      · cases h
      · exact h
    obtain ⟨X', x1, x2, x3, x4⟩ := h.into 8 l (bookT T cs' L' V' (ls ++ [lv] ++ [l2]) (vs ++ [v1] ++ [v2])) _ _ hi hl hl8 hf (fun k _ hk => by
      rcases hk with h | h | h | h
      · exact .inl (.inl h)
      · exact .inl (.inr (.inl h))
      · exact .inl (.inr (.inr (.inl h)))
      · exact .inr h) ⟨b', e'⟩ (fun k hk => by
      rcases hk with hk | hk | hk | ⟨u, hu, hk⟩
      · exact .inl (.inl hk)
      · rcases nL k hk with h | h
        · exact .inl (.inr (.inl h))
        · exact .inr (.inr h)
      · rcases nV k hk with h | h
        · exact .inl (.inr (.inr (.inl h)))
        · exact .inr (.inr h)
      · rcases hu with hu | hu
        · rcases List.mem_append.1 hu with hu | hu
          · rcases List.mem_append.1 hu with hu | hu
            · exact .inl (.inr (.inr (.inr ⟨u, .inl hu, hk⟩)))
            · rw [List.mem_singleton] at hu; subst hu; exact .inr (.inl hk)
          · rw [List.mem_singleton] at hu; subst hu
            rcases nl k hk with h | h
            · exact .inr (.inl h)
            · exact .inr (.inr h)
        · rcases List.mem_append.1 hu with hu | hu
          · rcases List.mem_append.1 hu with hu | hu
            · exact .inl (.inr (.inr (.inr ⟨u, .inr hu, hk⟩)))
            · rw [List.mem_singleton] at hu; subst hu; exact .inr (.inr (nn n1 hk))
          · rw [List.mem_singleton] at hu; subst hu; exact .inr (.inr (nn n2 hk)))
    exact ⟨rfl, X', cs', L', V', _, _, x1, x2, x3, x4, hpre, by simp⟩

/-- A room is written over. -/
theorem spoil_fam {w : World} {X : Nat → Thing} (h : Fam w X) {v : Value} {bs : List UInt8} (i : Nat) (hi : X i = rowT v bs) (hn : bs.length ≤ 150000000000000) (h0 : 0 < bs.length) :
    Calls Try.prog 53 #[v] w fun e w' => e = .returned (.tuple #[]) ∧ ∃ X', Fam w' X' ∧ X' i = nilT ∧ ∀ j, j ≠ i → X' j = X j := by
  have ho := h.at hi
  obtain ⟨ao, cap, rfl⟩ := ho.slice
  obtain ⟨g, rfl, _⟩ := ho.at h0
  refine (spoil_some g cap 0 bs w ho hn).mono ?_
  rintro e w' ⟨rfl, hO⟩
  exact ⟨rfl, h.turn i nilT _ hi (Fx.of_only (S := fun k => k = g) hO (fun k e => by cases e; rfl)) (fun k _ e => by rw [e]; rfl) trivial (fun _ h => h.elim)⟩

end Go.Proofs.Ytgfgabgnejnipaa
