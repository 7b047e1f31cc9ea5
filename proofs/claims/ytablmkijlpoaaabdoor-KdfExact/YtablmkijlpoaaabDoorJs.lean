import Derived.Test.YtablmkijlpoaaabDoorNt
namespace Go.Proofs.YtablmkijlpoaaabDoor
open Go.RowKit

/-- k times the same bytes. -/
def rep (C : List UInt8) : Nat → List UInt8
  | 0 => []
  | k + 1 => rep C k ++ C
theorem rep_length (C : List UInt8) (h : C.length = 32) : ∀ k, (rep C k).length = 32 * k
  | 0 => rfl
  | k + 1 => by rw [rep, List.length_append, rep_length C h k, h]; omega
theorem rep_write (C X : List UInt8) (n k : Nat) (hC : C.length = 32) (_hX : X.length = 32 * n) (_hk : k < n) : (rep C k ++ X.drop (32 * k)).take (32 * k) ++ C ++ (rep C k ++ X.drop (32 * k)).drop (32 * k + 32) = rep C (k + 1) ++ X.drop (32 * (k + 1)) := by
  rw [List.take_left' (rep_length C hC k), List.drop_append, rep_length C hC k, List.drop_of_length_le (by rw [rep_length C hC k]; omega), List.drop_drop, rep]
  simp only [List.nil_append, List.append_assoc]
  congr 3
  omega

/-- Keys written over owned ones. -/
theorem rowK_write {w : World} {base : Nat} {v : Value} {n : Nat} {bs : List UInt8} (h : w.ownsRow base 45 32 v n (bs.map byt)) (k : Nat) (hk : k < n) (C : List UInt8) (hC : C.length = 32) :
    ∃ g cap, v = .slice (some ⟨g, 0, none⟩) n cap ∧ base ≤ g ∧ g < w.heap.size ∧ w.there g (32 * k) 32 ∧ (w.setCells g (32 * k) (C.map byt)).ownsRow base 45 32 v n ((bs.take (32 * k) ++ C ++ bs.drop (32 * k + 32)).map byt) := by
  obtain ⟨h1, ⟨rfl, h2⟩ | ⟨g, cap, cur, rfl, hg, hb, hn, hc, hs, ht⟩⟩ := h
  · omega
  · rw [List.length_map] at h1
    have hcs : n * 32 ≤ cap * 32 := Nat.mul_le_mul_right _ hn
    refine ⟨g, cap, rfl, hg, app_block hb, fun j hj => ⟨?_, ?_⟩, ?_⟩
    · rw [cell_of_row w g _ cur 45 (0, 0) hb, Array.getElem?_eq_getElem (by omega)]; rfl
    · exact frozen_of_row w g _ cur 45 hb
    · obtain ⟨cur', e1, e2, e3⟩ := setCells_block g (C.map byt) (32 * k) w cur hb
      have hlen : (bs.take (32 * k) ++ C ++ bs.drop (32 * k + 32)).length = bs.length := by simp; omega
      refine ⟨by rw [List.length_map, hlen, h1], .inr ⟨g, cap, cur', rfl, hg, e1, hn, hc, by rw [e2]; exact hs, ?_⟩⟩
      apply List.ext_getElem?
      intro j
      by_cases hj : j < n * 32
      · rw [List.getElem?_take_of_lt hj, Array.getElem?_toList, e3]
        simp only [List.length_map, List.getElem?_map]
        by_cases hin : 32 * k ≤ j ∧ j < 32 * k + C.length
        · rw [if_pos (by omega), List.append_assoc, List.getElem?_append_right (by simp; omega), List.getElem?_append_left (by simp; omega)]
          simp [show min (32 * k) bs.length = 32 * k by omega]
        · rw [if_neg (by omega)]
          have hcur : cur[j]? = (bs[j]?).map byt := by
            have : (cur.toList.take (n * 32))[j]? = (bs.map byt)[j]? := by rw [ht]
            rw [List.getElem?_take_of_lt hj, Array.getElem?_toList, List.getElem?_map] at this
            exact this
          rw [hcur]
          congr 1
          by_cases hlo : j < 32 * k
          · rw [List.append_assoc, List.getElem?_append_left (by simp; omega), List.getElem?_take_of_lt hlo]
          · rw [List.getElem?_append_right (by simp; omega), List.getElem?_drop]
            congr 1
            simp; omega
      · rw [List.getElem?_eq_none (by simp; omega), List.getElem?_eq_none (by simp; omega)]
theorem idx44 (ad : Addr) (n cap m : Nat) (h : m < n) (W : World) : (Instr.indexAt 44 (.slice (some ad) n cap) (.int .i64 (m : Int))).run Tryd.prog W = .ok (.pointer (some (ad.add (m * 32)))) W := by
  have hm : (m : Int) < (n : Int) := by omega
  go_simp

theorem freeK {w : World} {base : Nat} {v : Value} {n : Nat} {xs : List Value} (h : w.ownsRow base 45 32 v n xs) : Free (fun k => v.ownBlock = some k) 5 w := fun k cur hk hc => by
  obtain ⟨c, h2⟩ := ownsRow_type h hk
  rw [h2] at hc
  cases hc
/-- The book beside keys, what they must hold, and the key that is written. -/
structure Js (x0 : World) (S0 : Nat → Prop) (w x : World) (p : Nat) (L V K M : Value) (ls vs kb mb ks ms : List Value) (lv wv : Value) (n : Nat) (B : List UInt8) (d : Nat) (C : List UInt8) : Prop where
  bc : Bc w x p L V K M ls vs kb mb
  en : Ent 5 1 x ls vs
  ek : Ent 45 32 x ks ms
  o1 : x.ownsRow w.heap.size 45 32 lv n (B.map byt)
  ow : x.ownsRow w.heap.size 45 32 wv n (B.map byt)
  s1 : ∀ q, wv.ownBlock = some q → lv.ownBlock = some q → False
  se : ∀ u, u ∈ ks ∨ u ∈ ms → ∀ q, u.ownBlock = some q → ¬ lv.ownBlock = some q ∧ ¬ wv.ownBlock = some q
  dx : Blk x d (C.map byt) 45
  d1 : ¬ lv.ownBlock = some d
  d2 : ¬ wv.ownBlock = some d
  fr : Fx S0 x0 x
  gl : ∀ q, lv.ownBlock = some q → x0.heap.size ≤ q
  gw : ∀ q, wv.ownBlock = some q → x0.heap.size ≤ q
theorem Js.below {x0 : World} {S0 : Nat → Prop} {w x y : World} {p : Nat} {L V K M : Value} {ls vs kb mb ks ms : List Value} {lv wv : Value} {n d : Nat} {B C : List UInt8} (h : Js x0 S0 w x p L V K M ls vs kb mb ks ms lv wv n B d C) (hb : Below x.heap.size x y) : Js x0 S0 w y p L V K M ls vs kb mb ks ms lv wv n B d C :=
  ⟨h.bc.below hb, h.en.below hb, h.ek.below hb, ownsRow_below h.o1 hb, ownsRow_below h.ow hb, h.s1, h.se, h.dx.below hb h.dx.lt, h.d1, h.d2, h.fr.then_below hb, h.gl, h.gw⟩
structure Jm (x0 : World) (S0 : Nat → Prop) (w x : World) (p : Nat) (L V K M : Value) (ls vs kb mb ks ms : List Value) (lv l2 wv : Value) (n : Nat) (B : List UInt8) (d : Nat) (C E : List UInt8) : Prop where
  ns : Js x0 S0 w x p L V K M ls vs kb mb ks ms lv wv n B d C
  o2 : x.ownsRow w.heap.size 45 32 l2 (n + 2) (E.map byt)
  s2 : ∀ q, wv.ownBlock = some q → l2.ownBlock = some q → False
theorem Jm.below {x0 : World} {S0 : Nat → Prop} {w x y : World} {p : Nat} {L V K M : Value} {ls vs kb mb ks ms : List Value} {lv l2 wv : Value} {n d : Nat} {B C E : List UInt8} (h : Jm x0 S0 w x p L V K M ls vs kb mb ks ms lv l2 wv n B d C E) (hb : Below x.heap.size x y) : Jm x0 S0 w y p L V K M ls vs kb mb ks ms lv l2 wv n B d C E :=
  ⟨h.ns.below hb, ownsRow_below h.o2 hb, h.s2⟩
theorem Js.app {x0 : World} {S0 : Nat → Prop} {w x y : World} {p : Nat} {L V K M : Value} {ls vs kb mb ks ms : List Value} {lv l2 wv : Value} {n d : Nat} {B C E : List UInt8} (h : Js x0 S0 w x p L V K M ls vs kb mb ks ms lv wv n B d C) (ho : y.ownsRow w.heap.size 45 32 l2 (n + 2) (E.map byt)) (hg : x.grownBy y lv.ownBlock) (hn : Nw x lv l2) (hold : y.ownsRow w.heap.size 45 32 lv n (B.map byt)) : Jm x0 S0 w y p L V K M ls vs kb mb ks ms lv l2 wv n B d C E := by
  have f : Fx (fun k => lv.ownBlock = some k) x y := Fx.grown hg (fun _ e => e)
  refine ⟨⟨h.bc.bytes (.inr rfl) h.o1 f, h.en.free f (freeK h.o1), h.ek.fx f (fun u hu q hq => (h.se u hu q hq).1), hold, ownsRow_fx h.ow f (fun q hq e => h.s1 q hq e), h.s1, h.se, h.dx.fx f (fun e => h.d1 e), h.d1, h.d2, h.fr.trans f (fun i hi e => absurd (h.gl i e) (by omega)), h.gl, h.gw⟩, ho, fun q h1 h2 => ?_⟩
  rcases hn q h2 with h3 | h3
  · exact h.s1 q h1 h3
  · have := (h.ow.lt q h1).2; omega
theorem blk_free {S : Nat → Prop} {w w' : World} {d : Nat} {cs : List Value} {e : TypeId} (h : Blk w d cs e) (hf : Fx S w w') (hS : Free S e w) : Blk w' d cs e :=
  h.fx hf (fun s => hS d cs.toArray s h)
theorem Jm.putK {x0 : World} {S0 : Nat → Prop} {w x y : World} {p : Nat} {L V K K' M : Value} {ls vs kb mb ks ms : List Value} {lv l2 wv : Value} {n d : Nat} {B C E : List UInt8} (h : Jm x0 S0 w x p L V K M ls vs kb mb ks ms lv l2 wv n B d C E) (ho : y.ownsRow w.heap.size 44 1 K' (kb.length + 2) (kb ++ [lv, l2])) (hg : x.grownBy y K.ownBlock) (hn : Nw x K K') (hS : ∀ i, (i = p ∨ K.ownBlock = some i) → S0 i) :
    Jm x0 S0 w (y.setCell ⟨p, 2, none⟩ K') p L V K' M ls vs (kb ++ [lv, l2]) mb ks ms lv l2 wv n B d C E ∧ y.cell? ⟨p, 2, none⟩ = some K ∧ y.frozen? ⟨p, 2, none⟩ = false ∧ Blk y d (C.map byt) 45 := by
  obtain ⟨b, f, c, z⟩ := h.ns.bc.put2 ho hg hn
  have f5 := h.ns.bc.free2 (e := 45) (.inr rfl)
  have fg : Fx (fun k => K.ownBlock = some k) x y := Fx.grown hg (fun _ e => e)
  exact ⟨⟨⟨b, h.ns.en.free f (h.ns.bc.free2 (.inl rfl)), h.ns.ek.free f f5, ownsRow_free h.ns.o1 f f5, ownsRow_free h.ns.ow f f5, h.ns.s1, h.ns.se, blk_free h.ns.dx f f5, h.ns.d1, h.ns.d2, h.ns.fr.trans f (fun i _ s => hS i s), h.ns.gl, h.ns.gw⟩, ownsRow_free h.o2 f f5, h.s2⟩, c, z, h.ns.dx.fx fg (fun e => f5 d _ (.inr e) h.ns.dx)⟩
structure Jq (x0 : World) (S0 : Nat → Prop) (w x : World) (p : Nat) (L V K M : Value) (ls vs kb mb ks ms : List Value) (lv l2 wv v2 : Value) (n : Nat) (B : List UInt8) (d : Nat) (C E : List UInt8) : Prop where
  bc : Bc w x p L V K M ls vs kb mb
  en : Ent 5 1 x ls vs
  ek : Ent 45 32 x ks ms
  o1 : x.ownsRow w.heap.size 45 32 lv n (B.map byt)
  o2 : x.ownsRow w.heap.size 45 32 l2 (n + 2) (E.map byt)
  ow : x.ownsRow w.heap.size 45 32 wv n (B.map byt)
  o3 : x.ownsRow w.heap.size 45 32 v2 (n + 2) (E.map byt)
  dx : Blk x d (C.map byt) 45
  fr : Fx S0 x0 x
theorem Jq.below {x0 : World} {S0 : Nat → Prop} {w x y : World} {p : Nat} {L V K M : Value} {ls vs kb mb ks ms : List Value} {lv l2 wv v2 : Value} {n d : Nat} {B C E : List UInt8} (h : Jq x0 S0 w x p L V K M ls vs kb mb ks ms lv l2 wv v2 n B d C E) (hb : Below x.heap.size x y) : Jq x0 S0 w y p L V K M ls vs kb mb ks ms lv l2 wv v2 n B d C E :=
  ⟨h.bc.below hb, h.en.below hb, h.ek.below hb, ownsRow_below h.o1 hb, ownsRow_below h.o2 hb, ownsRow_below h.ow hb, ownsRow_below h.o3 hb, h.dx.below hb h.dx.lt, h.fr.then_below hb⟩
theorem Jm.app {x0 : World} {S0 : Nat → Prop} {w x y : World} {p : Nat} {L V K M : Value} {ls vs kb mb ks ms : List Value} {lv l2 wv v2 : Value} {n d : Nat} {B C E : List UInt8} (h : Jm x0 S0 w x p L V K M ls vs kb mb ks ms lv l2 wv n B d C E) (ho : y.ownsRow w.heap.size 45 32 v2 (n + 2) (E.map byt)) (hg : x.grownBy y wv.ownBlock) (hold : y.ownsRow w.heap.size 45 32 wv n (B.map byt)) : Jq x0 S0 w y p L V K M ls vs kb mb ks ms lv l2 wv v2 n B d C E := by
  have f : Fx (fun k => wv.ownBlock = some k) x y := Fx.grown hg (fun _ e => e)
  exact ⟨h.ns.bc.bytes (.inr rfl) h.ns.ow f, h.ns.en.free f (freeK h.ns.ow), h.ns.ek.fx f (fun u hu q hq => (h.ns.se u hu q hq).2), ownsRow_fx h.ns.o1 f (fun q hq e => h.ns.s1 q e hq), ownsRow_fx h.o2 f (fun q hq e => h.s2 q e hq), hold, ho, h.ns.dx.fx f (fun e => h.ns.d2 e), h.ns.fr.trans f (fun i hi e => absurd (h.ns.gw i e) (by omega))⟩
theorem Jq.putM {x0 : World} {S0 : Nat → Prop} {w x y : World} {p : Nat} {L V K M M' : Value} {ls vs ks ms : List Value} {lv l2 wv v2 : Value} {n d : Nat} {B C E : List UInt8} (h : Jq x0 S0 w x p L V K M ls vs (ks ++ [lv, l2]) ms ks ms lv l2 wv v2 n B d C E) (ho : y.ownsRow w.heap.size 44 1 M' (ms.length + 2) (ms ++ [wv, v2])) (hg : x.grownBy y M.ownBlock) (hn : Nw x M M') (hS : ∀ i, (i = p ∨ M.ownBlock = some i) → S0 i) :
    (Bc w (y.setCell ⟨p, 3, none⟩ M') p L V K M' ls vs (ks ++ [lv, l2]) (ms ++ [wv, v2]) ∧ Ent 5 1 (y.setCell ⟨p, 3, none⟩ M') ls vs ∧ Ent 45 32 (y.setCell ⟨p, 3, none⟩ M') (ks ++ [lv, l2]) (ms ++ [wv, v2]) ∧ Blk (y.setCell ⟨p, 3, none⟩ M') d (C.map byt) 45 ∧ Fx S0 x0 (y.setCell ⟨p, 3, none⟩ M')) ∧ y.cell? ⟨p, 3, none⟩ = some M ∧ y.frozen? ⟨p, 3, none⟩ = false ∧ Blk y d (C.map byt) 45 := by
  obtain ⟨b, f, c, z⟩ := h.bc.put3 ho hg hn
  have f5 := h.bc.free3 (e := 45) (.inr rfl)
  have fg : Fx (fun k => M.ownBlock = some k) x y := Fx.grown hg (fun _ e => e)
  have e1 := (h.ek.free f f5).snoc (ownsRow_weaken (ownsRow_free h.o1 f f5)) (ownsRow_weaken (ownsRow_free h.ow f f5))
  have e2 := e1.snoc (ownsRow_weaken (ownsRow_free h.o2 f f5)) (ownsRow_weaken (ownsRow_free h.o3 f f5))
  rw [List.append_assoc, List.append_assoc] at e2
  exact ⟨⟨b, h.en.free f (h.bc.free3 (.inl rfl)), e2, blk_free h.dx f f5, h.fr.trans f (fun i _ s => hS i s)⟩, c, z, h.dx.fx fg (fun e => f5 d _ (.inr e) h.dx)⟩
end Go.Proofs.YtablmkijlpoaaabDoor
