import Derived.Test.YtablmkijlpoaaabDoorRky
namespace Go.Proofs.YtablmkijlpoaaabDoor
open Go.RowKit

theorem ownsRow_type {w : World} {base : Nat} {e : TypeId} {size : Nat} {v : Value} {n : Nat} {xs : List Value} (h : w.ownsRow base e size v n xs) {k : Nat} (hk : v.ownBlock = some k) : ∃ cur, w.heap[k]? = some (.cells cur e (0, 0)) := by
  obtain ⟨_, ⟨rfl, _⟩ | ⟨g, cap, cur, rfl, _, hh, _⟩⟩ := h
  · cases hk
  · simp [Value.ownBlock] at hk; subst hk; exact ⟨cur, hh⟩
theorem ownsRow_weaken {w : World} {base : Nat} {e : TypeId} {size : Nat} {v : Value} {n : Nat} {xs : List Value} (h : w.ownsRow base e size v n xs) : w.ownsRow 0 e size v n xs := by
  obtain ⟨h1, h | ⟨g, cap, cur, rfl, _, r⟩⟩ := h
  · exact ⟨h1, .inl h⟩
  · exact ⟨h1, .inr ⟨g, cap, cur, rfl, Nat.zero_le _, r⟩⟩
/-- No block of S is a row of that type. -/
def Free (S : Nat → Prop) (e : TypeId) (x : World) : Prop := ∀ k cur, S k → x.heap[k]? ≠ some (.cells cur e (0, 0))
theorem ownsRow_free {S : Nat → Prop} {w w' : World} {base : Nat} {e : TypeId} {size : Nat} {v : Value} {n : Nat} {xs : List Value} (h : w.ownsRow base e size v n xs) (hf : Fx S w w') (hS : Free S e w) : w'.ownsRow base e size v n xs :=
  ownsRow_fx h hf (fun k hk s => by obtain ⟨c, hc⟩ := ownsRow_type h hk; exact hS k c s hc)

/-- Each list and what it must hold. -/
structure Ent (e : TypeId) (s : Nat) (x : World) (ls vs : List Value) : Prop where
  ll : ls.length = vs.length
  at_ : ∀ (i : Nat) (l v : Value), ls[i]? = some l → vs[i]? = some v → ∃ n bs, x.ownsRow 0 e s l n (List.map byt bs) ∧ x.ownsRow 0 e s v n (List.map byt bs)
theorem Ent.fx {S : Nat → Prop} {e : TypeId} {s : Nat} {x y : World} {ls vs : List Value} (h : Ent e s x ls vs) (hf : Fx S x y) (hd : ∀ u, u ∈ ls ∨ u ∈ vs → ∀ k, u.ownBlock = some k → ¬ S k) : Ent e s y ls vs :=
  ⟨h.ll, fun i l v h1 h2 => by
    obtain ⟨n, bs, a, b⟩ := h.at_ i l v h1 h2
    exact ⟨n, bs, ownsRow_fx a hf (hd l (.inl (List.mem_of_getElem? h1))), ownsRow_fx b hf (hd v (.inr (List.mem_of_getElem? h2)))⟩⟩
theorem Ent.free {S : Nat → Prop} {e : TypeId} {s : Nat} {x y : World} {ls vs : List Value} (h : Ent e s x ls vs) (hf : Fx S x y) (hS : Free S e x) : Ent e s y ls vs :=
  ⟨h.ll, fun i l v h1 h2 => by
    obtain ⟨n, bs, a, b⟩ := h.at_ i l v h1 h2
    exact ⟨n, bs, ownsRow_free a hf hS, ownsRow_free b hf hS⟩⟩
theorem Ent.below {e : TypeId} {s : Nat} {x y : World} {ls vs : List Value} (h : Ent e s x ls vs) (hb : Below x.heap.size x y) : Ent e s y ls vs :=
  h.fx (S := fun _ => False) (Fx.of_below hb) (fun _ _ _ _ f => f)
theorem Ent.lt {e : TypeId} {s : Nat} {x : World} {ls vs : List Value} (h : Ent e s x ls vs) : ∀ u, u ∈ ls ∨ u ∈ vs → ∀ k, u.ownBlock = some k → k < x.heap.size := by
  rintro u (hu | hu) k hk
  · obtain ⟨i, hi, rfl⟩ := List.getElem_of_mem hu
    obtain ⟨n, bs, a, _⟩ := h.at_ i _ _ (List.getElem?_eq_getElem hi) (List.getElem?_eq_getElem (show i < vs.length by rw [← h.ll]; exact hi))
    exact (a.lt k hk).2
  · obtain ⟨i, hi, rfl⟩ := List.getElem_of_mem hu
    obtain ⟨n, bs, _, a⟩ := h.at_ i _ _ (List.getElem?_eq_getElem (show i < ls.length by rw [h.ll]; exact hi)) (List.getElem?_eq_getElem hi)
    exact (a.lt k hk).2
theorem Ent.snoc {e : TypeId} {s n : Nat} {x : World} {ls vs : List Value} {l v : Value} {bs : List UInt8} (h : Ent e s x ls vs) (h1 : x.ownsRow 0 e s l n (bs.map byt)) (h2 : x.ownsRow 0 e s v n (bs.map byt)) : Ent e s x (ls ++ [l]) (vs ++ [v]) := by
  refine ⟨by simp [h.ll], fun i a b ha hb => ?_⟩
  by_cases hi : i < ls.length
  · rw [List.getElem?_append_left hi] at ha
    rw [List.getElem?_append_left (by rw [← h.ll]; exact hi)] at hb
    exact h.at_ i a b ha hb
  · rw [List.getElem?_append_right (by omega)] at ha
    rw [List.getElem?_append_right (by rw [← h.ll]; omega), ← h.ll] at hb
    obtain ⟨d, hd⟩ : ∃ d, i - ls.length = d := ⟨_, rfl⟩
    rw [hd] at ha hb
    match d, ha, hb with
    | 0, ha, hb => simp at ha hb; subst ha hb; exact ⟨n, bs, h1, h2⟩

/-- The book at block p: its four lists. -/
structure Bc (w x : World) (p : Nat) (L V K M : Value) (ls vs ks ms : List Value) : Prop where
  bk : Blk x p [L, V, K, M] 27
  gp : w.heap.size ≤ p
  ol : x.ownsRow w.heap.size 29 1 L ls.length ls
  ov : x.ownsRow w.heap.size 29 1 V vs.length vs
  ok : x.ownsRow w.heap.size 44 1 K ks.length ks
  om : x.ownsRow w.heap.size 44 1 M ms.length ms
  lv : ∀ k, L.ownBlock = some k → V.ownBlock = some k → False
  km : ∀ k, K.ownBlock = some k → M.ownBlock = some k → False
  be : Below w.heap.size w x
theorem Bc.np0 {w x : World} {p : Nat} {L V K M : Value} {ls vs ks ms : List Value} (h : Bc w x p L V K M ls vs ks ms) : ¬ L.ownBlock = some p := fun e => by
  obtain ⟨c, hc⟩ := ownsRow_type h.ol e
  have := h.bk
  unfold Blk at this
  rw [this] at hc
  cases hc
theorem Bc.np1 {w x : World} {p : Nat} {L V K M : Value} {ls vs ks ms : List Value} (h : Bc w x p L V K M ls vs ks ms) : ¬ V.ownBlock = some p := fun e => by
  obtain ⟨c, hc⟩ := ownsRow_type h.ov e
  have := h.bk
  unfold Blk at this
  rw [this] at hc
  cases hc
theorem Bc.np2 {w x : World} {p : Nat} {L V K M : Value} {ls vs ks ms : List Value} (h : Bc w x p L V K M ls vs ks ms) : ¬ K.ownBlock = some p := fun e => by
  obtain ⟨c, hc⟩ := ownsRow_type h.ok e
  have := h.bk
  unfold Blk at this
  rw [this] at hc
  cases hc
theorem Bc.np3 {w x : World} {p : Nat} {L V K M : Value} {ls vs ks ms : List Value} (h : Bc w x p L V K M ls vs ks ms) : ¬ M.ownBlock = some p := fun e => by
  obtain ⟨c, hc⟩ := ownsRow_type h.om e
  have := h.bk
  unfold Blk at this
  rw [this] at hc
  cases hc
theorem Bc.below {w x y : World} {p : Nat} {L V K M : Value} {ls vs ks ms : List Value} (h : Bc w x p L V K M ls vs ks ms) (hb : Below x.heap.size x y) : Bc w y p L V K M ls vs ks ms :=
  ⟨h.bk.below hb h.bk.lt, h.gp, ownsRow_below h.ol hb, ownsRow_below h.ov hb, ownsRow_below h.ok hb, ownsRow_below h.om hb, h.lv, h.km, h.be.trans (hb.mono h.be.size)⟩
/-- A row of bytes or keys is turned: the book is not. -/
theorem Bc.bytes {w x y : World} {p : Nat} {L V K M u : Value} {ls vs ks ms : List Value} {e : TypeId} {s n : Nat} {bs : List Value} (h : Bc w x p L V K M ls vs ks ms) (he : e = 5 ∨ e = 45) (hu : x.ownsRow w.heap.size e s u n bs) (hf : Fx (fun k => u.ownBlock = some k) x y) : Bc w y p L V K M ls vs ks ms := by
  have hF : ∀ e', e' ≠ e → Free (fun k => u.ownBlock = some k) e' x := fun e' hne k cur hk hc => by
    obtain ⟨c, hc2⟩ := ownsRow_type hu hk
    rw [hc2] at hc
    simp at hc
    exact hne hc.2.symm
  refine ⟨h.bk.fx hf (fun hk => ?_), h.gp, ownsRow_free h.ol hf (hF 29 (by rcases he with rfl | rfl <;> decide)), ownsRow_free h.ov hf (hF 29 (by rcases he with rfl | rfl <;> decide)), ownsRow_free h.ok hf (hF 44 (by rcases he with rfl | rfl <;> decide)), ownsRow_free h.om hf (hF 44 (by rcases he with rfl | rfl <;> decide)), h.lv, h.km, h.be.trans (hf.below (fun k hk s => by have := (hu.lt k s).1; omega) h.be.size)⟩
  obtain ⟨c, hc⟩ := ownsRow_type hu hk
  have := h.bk
  unfold Blk at this
  rw [this] at hc
  simp at hc
  rcases he with rfl | rfl <;> simp at hc

/-- The book's list 0 has grown. -/
theorem Bc.put0 {w x y : World} {p : Nat} {L V K M L' a b : Value} {ls vs ks ms : List Value} (h : Bc w x p L V K M ls vs ks ms) (ho : y.ownsRow w.heap.size 29 1 L' (ls.length + 2) (ls ++ [a, b])) (hg : x.grownBy y L.ownBlock) (hn : Nw x L L') :
    Bc w (y.setCell ⟨p, 0, none⟩ L') p L' V K M (ls ++ [a, b]) vs ks ms ∧ Fx (fun k => k = p ∨ L.ownBlock = some k) x (y.setCell ⟨p, 0, none⟩ L') ∧ y.cell? ⟨p, 0, none⟩ = some L ∧ y.frozen? ⟨p, 0, none⟩ = false := by
  have f1 : Fx (fun k => L.ownBlock = some k) x y := Fx.grown hg (fun _ e => e)
  have f2 : Fx (One p) y (y.setCell ⟨p, 0, none⟩ L') := Fx.setCell y p 0 L' rfl
  have b1 : Blk y p [L, V, K, M] 27 := h.bk.fx f1 (fun e => h.np0 e)
  have b2 : y.heap[p]? = some (.cells [L, V, K, M].toArray 27 (0, 0)) := b1
  refine ⟨⟨b1.set 0 L', h.gp, by rw [List.length_append]; exact ownsRow_fx ho f2 (fun k hk (e : k = p) => by subst e; obtain ⟨cur, hc⟩ := ownsRow_type ho hk; rw [b2] at hc; cases hc), ownsRow_fx (ownsRow_fx h.ov f1 (fun k hk e => h.lv k e hk)) f2 (fun k hk (e : k = p) => by subst e; exact h.np1 hk), ownsRow_fx (ownsRow_fx h.ok f1 (fun k hk e => by obtain ⟨c1, h1⟩ := ownsRow_type h.ok hk; obtain ⟨c2, h2⟩ := ownsRow_type h.ol e; rw [h1] at h2; cases h2)) f2 (fun k hk (e : k = p) => by subst e; exact h.np2 hk), ownsRow_fx (ownsRow_fx h.om f1 (fun k hk e => by obtain ⟨c1, h1⟩ := ownsRow_type h.om hk; obtain ⟨c2, h2⟩ := ownsRow_type h.ol e; rw [h1] at h2; cases h2)) f2 (fun k hk (e : k = p) => by subst e; exact h.np3 hk), fun k h1 h2 => (hn k h1).elim (fun h3 => h.lv k h3 h2) (fun h3 => by have := (h.ov.lt k h2).2; omega), h.km, ?_⟩, (f1.mono (T := fun k => k = p ∨ L.ownBlock = some k) (fun _ _ s => .inr s)).trans f2 (fun _ _ e => .inl e), ?_, b1.frozen 0⟩
  · have hb1 : Below w.heap.size w y := h.be.grown hg h.be.size (fun k hk => (h.ol.lt k hk).1)
    exact hb1.setCell h.gp _
  · rw [b1.cell]; rfl
theorem Bc.free0 {w x : World} {p : Nat} {L V K M : Value} {ls vs ks ms : List Value} (h : Bc w x p L V K M ls vs ks ms) {e : TypeId} (he : e = 5 ∨ e = 45) : Free (fun k => k = p ∨ L.ownBlock = some k) e x := by
  rintro k cur (rfl | hk) hc
  · have := h.bk
    unfold Blk at this
    rw [this] at hc
    simp at hc
    rcases he with rfl | rfl <;> simp at hc
  · obtain ⟨c2, h2⟩ := ownsRow_type h.ol hk
    rw [h2] at hc
    simp at hc
    rcases he with rfl | rfl <;> simp at hc

/-- The book's list 1 has grown. -/
theorem Bc.put1 {w x y : World} {p : Nat} {L V K M V' a b : Value} {ls vs ks ms : List Value} (h : Bc w x p L V K M ls vs ks ms) (ho : y.ownsRow w.heap.size 29 1 V' (vs.length + 2) (vs ++ [a, b])) (hg : x.grownBy y V.ownBlock) (hn : Nw x V V') :
    Bc w (y.setCell ⟨p, 1, none⟩ V') p L V' K M ls (vs ++ [a, b]) ks ms ∧ Fx (fun k => k = p ∨ V.ownBlock = some k) x (y.setCell ⟨p, 1, none⟩ V') ∧ y.cell? ⟨p, 1, none⟩ = some V ∧ y.frozen? ⟨p, 1, none⟩ = false := by
  have f1 : Fx (fun k => V.ownBlock = some k) x y := Fx.grown hg (fun _ e => e)
  have f2 : Fx (One p) y (y.setCell ⟨p, 1, none⟩ V') := Fx.setCell y p 1 V' rfl
  have b1 : Blk y p [L, V, K, M] 27 := h.bk.fx f1 (fun e => h.np1 e)
  have b2 : y.heap[p]? = some (.cells [L, V, K, M].toArray 27 (0, 0)) := b1
  refine ⟨⟨b1.set 1 V', h.gp, ownsRow_fx (ownsRow_fx h.ol f1 (fun k hk e => h.lv k hk e)) f2 (fun k hk (e : k = p) => by subst e; exact h.np0 hk), by rw [List.length_append]; exact ownsRow_fx ho f2 (fun k hk (e : k = p) => by subst e; obtain ⟨cur, hc⟩ := ownsRow_type ho hk; rw [b2] at hc; cases hc), ownsRow_fx (ownsRow_fx h.ok f1 (fun k hk e => by obtain ⟨c1, h1⟩ := ownsRow_type h.ok hk; obtain ⟨c2, h2⟩ := ownsRow_type h.ov e; rw [h1] at h2; cases h2)) f2 (fun k hk (e : k = p) => by subst e; exact h.np2 hk), ownsRow_fx (ownsRow_fx h.om f1 (fun k hk e => by obtain ⟨c1, h1⟩ := ownsRow_type h.om hk; obtain ⟨c2, h2⟩ := ownsRow_type h.ov e; rw [h1] at h2; cases h2)) f2 (fun k hk (e : k = p) => by subst e; exact h.np3 hk), fun k h1 h2 => (hn k h2).elim (fun h3 => h.lv k h1 h3) (fun h3 => by have := (h.ol.lt k h1).2; omega), h.km, ?_⟩, (f1.mono (T := fun k => k = p ∨ V.ownBlock = some k) (fun _ _ s => .inr s)).trans f2 (fun _ _ e => .inl e), ?_, b1.frozen 1⟩
  · have hb1 : Below w.heap.size w y := h.be.grown hg h.be.size (fun k hk => (h.ov.lt k hk).1)
    exact hb1.setCell h.gp _
  · rw [b1.cell]; rfl
theorem Bc.free1 {w x : World} {p : Nat} {L V K M : Value} {ls vs ks ms : List Value} (h : Bc w x p L V K M ls vs ks ms) {e : TypeId} (he : e = 5 ∨ e = 45) : Free (fun k => k = p ∨ V.ownBlock = some k) e x := by
  rintro k cur (rfl | hk) hc
  · have := h.bk
    unfold Blk at this
    rw [this] at hc
    simp at hc
    rcases he with rfl | rfl <;> simp at hc
  · obtain ⟨c2, h2⟩ := ownsRow_type h.ov hk
    rw [h2] at hc
    simp at hc
    rcases he with rfl | rfl <;> simp at hc

/-- The book's list 2 has grown. -/
theorem Bc.put2 {w x y : World} {p : Nat} {L V K M K' a b : Value} {ls vs ks ms : List Value} (h : Bc w x p L V K M ls vs ks ms) (ho : y.ownsRow w.heap.size 44 1 K' (ks.length + 2) (ks ++ [a, b])) (hg : x.grownBy y K.ownBlock) (hn : Nw x K K') :
    Bc w (y.setCell ⟨p, 2, none⟩ K') p L V K' M ls vs (ks ++ [a, b]) ms ∧ Fx (fun k => k = p ∨ K.ownBlock = some k) x (y.setCell ⟨p, 2, none⟩ K') ∧ y.cell? ⟨p, 2, none⟩ = some K ∧ y.frozen? ⟨p, 2, none⟩ = false := by
  have f1 : Fx (fun k => K.ownBlock = some k) x y := Fx.grown hg (fun _ e => e)
  have f2 : Fx (One p) y (y.setCell ⟨p, 2, none⟩ K') := Fx.setCell y p 2 K' rfl
  have b1 : Blk y p [L, V, K, M] 27 := h.bk.fx f1 (fun e => h.np2 e)
  have b2 : y.heap[p]? = some (.cells [L, V, K, M].toArray 27 (0, 0)) := b1
  refine ⟨⟨b1.set 2 K', h.gp, ownsRow_fx (ownsRow_fx h.ol f1 (fun k hk e => by obtain ⟨c1, h1⟩ := ownsRow_type h.ol hk; obtain ⟨c2, h2⟩ := ownsRow_type h.ok e; rw [h1] at h2; cases h2)) f2 (fun k hk (e : k = p) => by subst e; exact h.np0 hk), ownsRow_fx (ownsRow_fx h.ov f1 (fun k hk e => by obtain ⟨c1, h1⟩ := ownsRow_type h.ov hk; obtain ⟨c2, h2⟩ := ownsRow_type h.ok e; rw [h1] at h2; cases h2)) f2 (fun k hk (e : k = p) => by subst e; exact h.np1 hk), by rw [List.length_append]; exact ownsRow_fx ho f2 (fun k hk (e : k = p) => by subst e; obtain ⟨cur, hc⟩ := ownsRow_type ho hk; rw [b2] at hc; cases hc), ownsRow_fx (ownsRow_fx h.om f1 (fun k hk e => h.km k e hk)) f2 (fun k hk (e : k = p) => by subst e; exact h.np3 hk), h.lv, fun k h1 h2 => (hn k h1).elim (fun h3 => h.km k h3 h2) (fun h3 => by have := (h.om.lt k h2).2; omega), ?_⟩, (f1.mono (T := fun k => k = p ∨ K.ownBlock = some k) (fun _ _ s => .inr s)).trans f2 (fun _ _ e => .inl e), ?_, b1.frozen 2⟩
  · have hb1 : Below w.heap.size w y := h.be.grown hg h.be.size (fun k hk => (h.ok.lt k hk).1)
    exact hb1.setCell h.gp _
  · rw [b1.cell]; rfl
theorem Bc.free2 {w x : World} {p : Nat} {L V K M : Value} {ls vs ks ms : List Value} (h : Bc w x p L V K M ls vs ks ms) {e : TypeId} (he : e = 5 ∨ e = 45) : Free (fun k => k = p ∨ K.ownBlock = some k) e x := by
  rintro k cur (rfl | hk) hc
  · have := h.bk
    unfold Blk at this
    rw [this] at hc
    simp at hc
    rcases he with rfl | rfl <;> simp at hc
  · obtain ⟨c2, h2⟩ := ownsRow_type h.ok hk
    rw [h2] at hc
    simp at hc
    rcases he with rfl | rfl <;> simp at hc

/-- The book's list 3 has grown. -/
theorem Bc.put3 {w x y : World} {p : Nat} {L V K M M' a b : Value} {ls vs ks ms : List Value} (h : Bc w x p L V K M ls vs ks ms) (ho : y.ownsRow w.heap.size 44 1 M' (ms.length + 2) (ms ++ [a, b])) (hg : x.grownBy y M.ownBlock) (hn : Nw x M M') :
    Bc w (y.setCell ⟨p, 3, none⟩ M') p L V K M' ls vs ks (ms ++ [a, b]) ∧ Fx (fun k => k = p ∨ M.ownBlock = some k) x (y.setCell ⟨p, 3, none⟩ M') ∧ y.cell? ⟨p, 3, none⟩ = some M ∧ y.frozen? ⟨p, 3, none⟩ = false := by
  have f1 : Fx (fun k => M.ownBlock = some k) x y := Fx.grown hg (fun _ e => e)
  have f2 : Fx (One p) y (y.setCell ⟨p, 3, none⟩ M') := Fx.setCell y p 3 M' rfl
  have b1 : Blk y p [L, V, K, M] 27 := h.bk.fx f1 (fun e => h.np3 e)
  have b2 : y.heap[p]? = some (.cells [L, V, K, M].toArray 27 (0, 0)) := b1
  refine ⟨⟨b1.set 3 M', h.gp, ownsRow_fx (ownsRow_fx h.ol f1 (fun k hk e => by obtain ⟨c1, h1⟩ := ownsRow_type h.ol hk; obtain ⟨c2, h2⟩ := ownsRow_type h.om e; rw [h1] at h2; cases h2)) f2 (fun k hk (e : k = p) => by subst e; exact h.np0 hk), ownsRow_fx (ownsRow_fx h.ov f1 (fun k hk e => by obtain ⟨c1, h1⟩ := ownsRow_type h.ov hk; obtain ⟨c2, h2⟩ := ownsRow_type h.om e; rw [h1] at h2; cases h2)) f2 (fun k hk (e : k = p) => by subst e; exact h.np1 hk), ownsRow_fx (ownsRow_fx h.ok f1 (fun k hk e => h.km k hk e)) f2 (fun k hk (e : k = p) => by subst e; exact h.np2 hk), by rw [List.length_append]; exact ownsRow_fx ho f2 (fun k hk (e : k = p) => by subst e; obtain ⟨cur, hc⟩ := ownsRow_type ho hk; rw [b2] at hc; cases hc), h.lv, fun k h1 h2 => (hn k h2).elim (fun h3 => h.km k h1 h3) (fun h3 => by have := (h.ok.lt k h1).2; omega), ?_⟩, (f1.mono (T := fun k => k = p ∨ M.ownBlock = some k) (fun _ _ s => .inr s)).trans f2 (fun _ _ e => .inl e), ?_, b1.frozen 3⟩
  · have hb1 : Below w.heap.size w y := h.be.grown hg h.be.size (fun k hk => (h.om.lt k hk).1)
    exact hb1.setCell h.gp _
  · rw [b1.cell]; rfl
theorem Bc.free3 {w x : World} {p : Nat} {L V K M : Value} {ls vs ks ms : List Value} (h : Bc w x p L V K M ls vs ks ms) {e : TypeId} (he : e = 5 ∨ e = 45) : Free (fun k => k = p ∨ M.ownBlock = some k) e x := by
  rintro k cur (rfl | hk) hc
  · have := h.bk
    unfold Blk at this
    rw [this] at hc
    simp at hc
    rcases he with rfl | rfl <;> simp at hc
  · obtain ⟨c2, h2⟩ := ownsRow_type h.om hk
    rw [h2] at hc
    simp at hc
    rcases he with rfl | rfl <;> simp at hc

end Go.Proofs.YtablmkijlpoaaabDoor
