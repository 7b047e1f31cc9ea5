import Derived.Test.YtablmkijlpoaaabDoorBok
namespace Go.Proofs.YtablmkijlpoaaabDoor
open Go.RowKit

/-- The marks of a list. -/
def mks (m n : Nat) : List UInt8 := (List.range n).map fun i => UInt8.ofNat (m + i)
theorem mks_length (m n : Nat) : (mks m n).length = n := by simp [mks]
theorem mks_succ (m k : Nat) : mks m (k + 1) = mks m k ++ [UInt8.ofNat (m + k)] := by simp [mks, List.range_succ]
theorem mks_write (m k : Nat) (bs : List UInt8) (hk : k < bs.length) : (mks m k ++ bs.drop k).set k (UInt8.ofNat (m + k)) = mks m (k + 1) ++ bs.drop (k + 1) := by
  rw [List.set_append_right _ _ (by rw [mks_length]; omega), mks_length, Nat.sub_self, List.drop_eq_getElem_cons hk, List.set_cons_zero, mks_succ]
  simp

/-- A place in an owned row, to be written. -/
theorem Own.place {w : World} {base : Nat} {v : Value} {bs : List UInt8} (h : Own w base v bs) (k : Nat) (hk : k < bs.length) :
    ∃ g cap, v = .slice (some ⟨g, 0, none⟩) bs.length cap ∧ base ≤ g ∧ g < w.heap.size ∧ (∃ u, w.cell? ⟨g, k, none⟩ = some (byt u)) ∧ w.frozen? ⟨g, k, none⟩ = false ∧ ∀ b, Own (w.setCell ⟨g, k, none⟩ (byt b)) base v (bs.set k b) := by
  have hh := h
  obtain ⟨h1, ⟨rfl, h2⟩ | ⟨g, cap, cur, rfl, hg, hb, hn, hc, hs, ht⟩⟩ := h
  · omega
  · have hc2 := hh.cells k hk
    refine ⟨g, cap, rfl, hg, app_block hb, hc2.1, hc2.2, fun b => ?_⟩
    refine ⟨by simp, .inr ⟨g, cap, cur.setIfInBounds k (byt b), by rw [List.length_set], hg, setCell_block w g k (byt b) hb, by rw [List.length_set]; exact hn, hc, by rw [Array.size_setIfInBounds]; exact hs, ?_⟩⟩
    rw [List.length_set, List.map_set, Array.toList_setIfInBounds, List.take_set, ht]

/-- The book beside a list, and what it must hold. -/
structure Ns (x0 : World) (S0 : Nat → Prop) (w x : World) (p : Nat) (L V K M : Value) (lb vb ks ms ls vs : List Value) (lv wv : Value) (B : List UInt8) : Prop where
  bc : Bc w x p L V K M lb vb ks ms
  en : Ent 5 1 x ls vs
  ek : Ent 45 32 x ks ms
  o1 : Own x w.heap.size lv B
  ow : Own x w.heap.size wv B
  s1 : ∀ q, wv.ownBlock = some q → lv.ownBlock = some q → False
  se : ∀ u, u ∈ ls ∨ u ∈ vs → ∀ q, u.ownBlock = some q → ¬ lv.ownBlock = some q ∧ ¬ wv.ownBlock = some q
  fr : Fx S0 x0 x
  gl : ∀ q, lv.ownBlock = some q → x0.heap.size ≤ q
  gw : ∀ q, wv.ownBlock = some q → x0.heap.size ≤ q
theorem Ns.below {x0 : World} {S0 : Nat → Prop} {w x y : World} {p : Nat} {L V K M : Value} {lb vb ks ms ls vs : List Value} {lv wv : Value} {B : List UInt8} (h : Ns x0 S0 w x p L V K M lb vb ks ms ls vs lv wv B) (hb : Below x.heap.size x y) : Ns x0 S0 w y p L V K M lb vb ks ms ls vs lv wv B :=
  ⟨h.bc.below hb, h.en.below hb, h.ek.below hb, h.o1.below hb, h.ow.below hb, h.s1, h.se, h.fr.then_below hb, h.gl, h.gw⟩
theorem free45 {w : World} {base : Nat} {v : Value} {bs : List UInt8} (h : Own w base v bs) : Free (fun k => v.ownBlock = some k) 45 w := fun k cur hk hc => by
  obtain ⟨c, h2⟩ := ownsRow_type h hk
  rw [h2] at hc
  cases hc
/-- The list beside one that is longer. -/
structure Nm (x0 : World) (S0 : Nat → Prop) (w x : World) (p : Nat) (L V K M : Value) (lb vb ks ms ls vs : List Value) (lv l2 wv : Value) (B C : List UInt8) : Prop where
  ns : Ns x0 S0 w x p L V K M lb vb ks ms ls vs lv wv B
  o2 : Own x w.heap.size l2 C
  s2 : ∀ q, wv.ownBlock = some q → l2.ownBlock = some q → False
theorem Nm.below {x0 : World} {S0 : Nat → Prop} {w x y : World} {p : Nat} {L V K M : Value} {lb vb ks ms ls vs : List Value} {lv l2 wv : Value} {B C : List UInt8} (h : Nm x0 S0 w x p L V K M lb vb ks ms ls vs lv l2 wv B C) (hb : Below x.heap.size x y) : Nm x0 S0 w y p L V K M lb vb ks ms ls vs lv l2 wv B C :=
  ⟨h.ns.below hb, h.o2.below hb, h.s2⟩
theorem Ns.app {x0 : World} {S0 : Nat → Prop} {w x y : World} {p : Nat} {L V K M : Value} {lb vb ks ms ls vs : List Value} {lv l2 wv : Value} {B C : List UInt8} (h : Ns x0 S0 w x p L V K M lb vb ks ms ls vs lv wv B) (ho : Own y w.heap.size l2 C) (hg : x.grownBy y lv.ownBlock) (hn : Nw x lv l2) (hold : Own y w.heap.size lv B) : Nm x0 S0 w y p L V K M lb vb ks ms ls vs lv l2 wv B C := by
  have f : Fx (fun k => lv.ownBlock = some k) x y := Fx.grown hg (fun _ e => e)
  refine ⟨⟨h.bc.bytes (.inl rfl) h.o1 f, h.en.fx f (fun u hu q hq => (h.se u hu q hq).1), h.ek.free f (free45 h.o1), hold, ownsRow_fx h.ow f (fun q hq e => h.s1 q hq e), h.s1, h.se, h.fr.trans f (fun i hi e => absurd (h.gl i e) (by omega)), h.gl, h.gw⟩, ho, fun q h1 h2 => ?_⟩
  rcases hn q h2 with h3 | h3
  · exact h.s1 q h1 h3
  · have := (h.ow.lt q h1).2; omega
theorem Nm.putL {x0 : World} {S0 : Nat → Prop} {w x y : World} {p : Nat} {L L' V K M : Value} {lb vb ks ms ls vs : List Value} {lv l2 wv : Value} {B C : List UInt8} (h : Nm x0 S0 w x p L V K M lb vb ks ms ls vs lv l2 wv B C) (ho : y.ownsRow w.heap.size 29 1 L' (lb.length + 2) (lb ++ [lv, l2])) (hg : x.grownBy y L.ownBlock) (hn : Nw x L L') (hS : ∀ i, (i = p ∨ L.ownBlock = some i) → S0 i) :
    Nm x0 S0 w (y.setCell ⟨p, 0, none⟩ L') p L' V K M (lb ++ [lv, l2]) vb ks ms ls vs lv l2 wv B C ∧ y.cell? ⟨p, 0, none⟩ = some L ∧ y.frozen? ⟨p, 0, none⟩ = false := by
  obtain ⟨b, f, c, z⟩ := h.ns.bc.put0 ho hg hn
  have f5 := h.ns.bc.free0 (e := 5) (.inl rfl)
  exact ⟨⟨⟨b, h.ns.en.free f f5, h.ns.ek.free f (h.ns.bc.free0 (.inr rfl)), ownsRow_free h.ns.o1 f f5, ownsRow_free h.ns.ow f f5, h.ns.s1, h.ns.se, h.ns.fr.trans f (fun i _ s => hS i s), h.ns.gl, h.ns.gw⟩, ownsRow_free h.o2 f f5, h.s2⟩, c, z⟩
/-- Both pairs, ahead of the second list's store. -/
structure Nq (x0 : World) (S0 : Nat → Prop) (w x : World) (p : Nat) (L V K M : Value) (lb vb ks ms ls vs : List Value) (lv l2 wv v2 : Value) (B C : List UInt8) : Prop where
  bc : Bc w x p L V K M lb vb ks ms
  en : Ent 5 1 x ls vs
  ek : Ent 45 32 x ks ms
  o1 : Own x w.heap.size lv B
  o2 : Own x w.heap.size l2 C
  ow : Own x w.heap.size wv B
  o3 : Own x w.heap.size v2 C
  fr : Fx S0 x0 x
theorem Nq.below {x0 : World} {S0 : Nat → Prop} {w x y : World} {p : Nat} {L V K M : Value} {lb vb ks ms ls vs : List Value} {lv l2 wv v2 : Value} {B C : List UInt8} (h : Nq x0 S0 w x p L V K M lb vb ks ms ls vs lv l2 wv v2 B C) (hb : Below x.heap.size x y) : Nq x0 S0 w y p L V K M lb vb ks ms ls vs lv l2 wv v2 B C :=
  ⟨h.bc.below hb, h.en.below hb, h.ek.below hb, h.o1.below hb, h.o2.below hb, h.ow.below hb, h.o3.below hb, h.fr.then_below hb⟩
theorem Nm.app {x0 : World} {S0 : Nat → Prop} {w x y : World} {p : Nat} {L V K M : Value} {lb vb ks ms ls vs : List Value} {lv l2 wv v2 : Value} {B C : List UInt8} (h : Nm x0 S0 w x p L V K M lb vb ks ms ls vs lv l2 wv B C) (ho : Own y w.heap.size v2 C) (hg : x.grownBy y wv.ownBlock) (hold : Own y w.heap.size wv B) : Nq x0 S0 w y p L V K M lb vb ks ms ls vs lv l2 wv v2 B C := by
  have f : Fx (fun k => wv.ownBlock = some k) x y := Fx.grown hg (fun _ e => e)
  exact ⟨h.ns.bc.bytes (.inl rfl) h.ns.ow f, h.ns.en.fx f (fun u hu q hq => (h.ns.se u hu q hq).2), h.ns.ek.free f (free45 h.ns.ow), ownsRow_fx h.ns.o1 f (fun q hq e => h.ns.s1 q e hq), ownsRow_fx h.o2 f (fun q hq e => h.s2 q e hq), hold, ho, h.ns.fr.trans f (fun i hi e => absurd (h.ns.gw i e) (by omega))⟩
theorem Nq.putV {x0 : World} {S0 : Nat → Prop} {w x y : World} {p : Nat} {L V V' K M : Value} {ks ms ls vs : List Value} {lv l2 wv v2 : Value} {B C : List UInt8} (h : Nq x0 S0 w x p L V K M (ls ++ [lv, l2]) vs ks ms ls vs lv l2 wv v2 B C) (ho : y.ownsRow w.heap.size 29 1 V' (vs.length + 2) (vs ++ [wv, v2])) (hg : x.grownBy y V.ownBlock) (hn : Nw x V V') (_hBC : B.length + 3 = C.length) (hS : ∀ i, (i = p ∨ V.ownBlock = some i) → S0 i) :
    (Bc w (y.setCell ⟨p, 1, none⟩ V') p L V' K M (ls ++ [lv, l2]) (vs ++ [wv, v2]) ks ms ∧ Ent 5 1 (y.setCell ⟨p, 1, none⟩ V') (ls ++ [lv, l2]) (vs ++ [wv, v2]) ∧ Ent 45 32 (y.setCell ⟨p, 1, none⟩ V') ks ms ∧ Fx S0 x0 (y.setCell ⟨p, 1, none⟩ V')) ∧ y.cell? ⟨p, 1, none⟩ = some V ∧ y.frozen? ⟨p, 1, none⟩ = false := by
  obtain ⟨b, f, c, z⟩ := h.bc.put1 ho hg hn
  have f5 := h.bc.free1 (e := 5) (.inl rfl)
  have e1 := (h.en.free f f5).snoc (ownsRow_weaken (ownsRow_free h.o1 f f5)) (ownsRow_weaken (ownsRow_free h.ow f f5))
  have e2 := e1.snoc (ownsRow_weaken (ownsRow_free h.o2 f f5)) (ownsRow_weaken (ownsRow_free h.o3 f f5))
  rw [List.append_assoc, List.append_assoc] at e2
  exact ⟨⟨b, e2, h.ek.free f (h.bc.free1 (.inr rfl)), h.fr.trans f (fun i _ s => hS i s)⟩, c, z⟩
end Go.Proofs.YtablmkijlpoaaabDoor
