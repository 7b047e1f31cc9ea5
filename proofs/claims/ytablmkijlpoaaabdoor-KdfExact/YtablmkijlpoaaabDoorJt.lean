import Derived.Test.YtablmkijlpoaaabDoorNt
namespace Go.Proofs.YtablmkijlpoaaabDoor
open Go.RowKit

/-- k times the same bytes. -/
def rep (C : List UInt8) : Nat → List UInt8
  | 0 => []
  | k + 1 => rep C k ++ C
theorem rep_length (C : List UInt8) (h : C.length = 32) : ∀ k, (rep C k).length = 32 * k
  | 0 => rfl
  | k + 1 => by rw [rep, List.length_append, rep_length C h k, h]; omega
theorem rep_write (C X : List UInt8) (n k : Nat) (hC : C.length = 32) (_hX : X.length = 32 * n) (_hk : k < n) : (rep C k ++ X.drop (32 * k)).take (32 * k) ++ C ++ (rep C k ++ X.drop (32 * k)).drop (32 * k + 32) = rep C (k + 1) ++ X.drop (32 * (k + 1)) := by
  rw [List.take_left' (rep_length C hC k), List.drop_append, rep_length C hC k, List.drop_of_length_le (by rw [rep_length C hC k]; omega), List.drop_drop, rep]
  simp only [List.nil_append, List.append_assoc]
  congr 3
  omega

/-- Keys written over owned ones. -/
theorem rowK_write {w : World} {base : Nat} {v : Value} {n : Nat} {bs : List UInt8} (h : w.ownsRow base 45 32 v n (bs.map byt)) (k : Nat) (hk : k < n) (C : List UInt8) (hC : C.length = 32) :
    ∃ g cap, v = .slice (some ⟨g, 0, none⟩) n cap ∧ base ≤ g ∧ g < w.heap.size ∧ w.there g (32 * k) 32 ∧ (w.setCells g (32 * k) (C.map byt)).ownsRow base 45 32 v n ((bs.take (32 * k) ++ C ++ bs.drop (32 * k + 32)).map byt) := by
  obtain ⟨h1, ⟨rfl, h2⟩ | ⟨g, cap, cur, rfl, hg, hb, hn, hc, hs, ht⟩⟩ := h
  · omega
  · rw [List.length_map] at h1
    have hcs : n * 32 ≤ cap * 32 := Nat.mul_le_mul_right _ hn
    refine ⟨g, cap, rfl, hg, app_block hb, fun j hj => ⟨?_, ?_⟩, ?_⟩
    · rw [cell_of_row w g _ cur 45 (0, 0) hb, Array.getElem?_eq_getElem (by omega)]; rfl
    · exact frozen_of_row w g _ cur 45 hb
    · obtain ⟨cur', e1, e2, e3⟩ := setCells_block g (C.map byt) (32 * k) w cur hb
      have hlen : (bs.take (32 * k) ++ C ++ bs.drop (32 * k + 32)).length = bs.length := by simp; omega
      refine ⟨by rw [List.length_map, hlen, h1], .inr ⟨g, cap, cur', rfl, hg, e1, hn, hc, by rw [e2]; exact hs, ?_⟩⟩
      apply List.ext_getElem?
      intro j
      by_cases hj : j < n * 32
      · rw [List.getElem?_take_of_lt hj, Array.getElem?_toList, e3]
        simp only [List.length_map, List.getElem?_map]
        by_cases hin : 32 * k ≤ j ∧ j < 32 * k + C.length
        · rw [if_pos (by omega), List.append_assoc, List.getElem?_append_right (by simp; omega), List.getElem?_append_left (by simp; omega)]
          simp [show min (32 * k) bs.length = 32 * k by omega]
        · rw [if_neg (by omega)]
          have hcur : cur[j]? = (bs[j]?).map byt := by
            have : (cur.toList.take (n * 32))[j]? = (bs.map byt)[j]? := by rw [ht]
            rw [List.getElem?_take_of_lt hj, Array.getElem?_toList, List.getElem?_map] at this
            exact this
          rw [hcur]
          congr 1
          by_cases hlo : j < 32 * k
          · rw [List.append_assoc, List.getElem?_append_left (by simp; omega), List.getElem?_take_of_lt hlo]
          · rw [List.getElem?_append_right (by simp; omega), List.getElem?_drop]
            congr 1
            simp; omega
      · rw [List.getElem?_eq_none (by simp; omega), List.getElem?_eq_none (by simp; omega)]
theorem idx44 (ad : Addr) (n cap m : Nat) (h : m < n) (W : World) : (Instr.indexAt 44 (.slice (some ad) n cap) (.int .i64 (m : Int))).run Tryd.prog W = .ok (.pointer (some (ad.add (m * 32)))) W := by
  have hm : (m : Int) < (n : Int) := by omega
  go_simp

theorem freeK {w : World} {base : Nat} {v : Value} {n : Nat} {xs : List Value} (h : w.ownsRow base 45 32 v n xs) : Free (fun k => v.ownBlock = some k) 5 w := fun k cur hk hc => by
  obtain ⟨c, h2⟩ := ownsRow_type h hk
  rw [h2] at hc
  cases hc
/-- The book beside keys, what they must hold, and the key that is written. -/
structure Js (x0 : World) (S0 : Nat → Prop) (w x : World) (p : Nat) (L V K M : Value) (ls vs kb mb ks ms : List Value) (lv wv : Value) (n : Nat) (B : List UInt8) (d : Nat) (C : List UInt8) : Prop where
  bc : Bc w x p L V K M ls vs kb mb
  en : Ent 5 1 x ls vs
  ek : Ent 45 32 x ks ms
  o1 : x.ownsRow w.heap.size 45 32 lv n (B.map byt)
  ow : x.ownsRow w.heap.size 45 32 wv n (B.map byt)
  s1 : ∀ q, wv.ownBlock = some q → lv.ownBlock = some q → False
  se : ∀ u, u ∈ ks ∨ u ∈ ms → ∀ q, u.ownBlock = some q → ¬ lv.ownBlock = some q ∧ ¬ wv.ownBlock = some q
  dx : Blk x d (C.map byt) 45
  d1 : ¬ lv.ownBlock = some d
  d2 : ¬ wv.ownBlock = some d
  fr : Fx S0 x0 x
  gl : ∀ q, lv.ownBlock = some q → x0.heap.size ≤ q
  gw : ∀ q, wv.ownBlock = some q → x0.heap.size ≤ q
theorem Js.below {x0 : World} {S0 : Nat → Prop} {w x y : World} {p : Nat} {L V K M : Value} {ls vs kb mb ks ms : List Value} {lv wv : Value} {n d : Nat} {B C : List UInt8} (h : Js x0 S0 w x p L V K M ls vs kb mb ks ms lv wv n B d C) (hb : Below x.heap.size x y) : Js x0 S0 w y p L V K M ls vs kb mb ks ms lv wv n B d C :=
  ⟨h.bc.below hb, h.en.below hb, h.ek.below hb, ownsRow_below h.o1 hb, ownsRow_below h.ow hb, h.s1, h.se, h.dx.below hb h.dx.lt, h.d1, h.d2, h.fr.then_below hb, h.gl, h.gw⟩
structure Jm (x0 : World) (S0 : Nat → Prop) (w x : World) (p : Nat) (L V K M : Value) (ls vs kb mb ks ms : List Value) (lv l2 wv : Value) (n : Nat) (B : List UInt8) (d : Nat) (C E : List UInt8) : Prop where
  ns : Js x0 S0 w x p L V K M ls vs kb mb ks ms lv wv n B d C
  o2 : x.ownsRow w.heap.size 45 32 l2 (n + 2) (E.map byt)
  s2 : ∀ q, wv.ownBlock = some q → l2.ownBlock = some q → False
theorem Jm.below {x0 : World} {S0 : Nat → Prop} {w x y : World} {p : Nat} {L V K M : Value} {ls vs kb mb ks ms : List Value} {lv l2 wv : Value} {n d : Nat} {B C E : List UInt8} (h : Jm x0 S0 w x p L V K M ls vs kb mb ks ms lv l2 wv n B d C E) (hb : Below x.heap.size x y) : Jm x0 S0 w y p L V K M ls vs kb mb ks ms lv l2 wv n B d C E :=
  ⟨h.ns.below hb, ownsRow_below h.o2 hb, h.s2⟩
theorem Js.app {x0 : World} {S0 : Nat → Prop} {w x y : World} {p : Nat} {L V K M : Value} {ls vs kb mb ks ms : List Value} {lv l2 wv : Value} {n d : Nat} {B C E : List UInt8} (h : Js x0 S0 w x p L V K M ls vs kb mb ks ms lv wv n B d C) (ho : y.ownsRow w.heap.size 45 32 l2 (n + 2) (E.map byt)) (hg : x.grownBy y lv.ownBlock) (hn : Nw x lv l2) (hold : y.ownsRow w.heap.size 45 32 lv n (B.map byt)) : Jm x0 S0 w y p L V K M ls vs kb mb ks ms lv l2 wv n B d C E := by
  have f : Fx (fun k => lv.ownBlock = some k) x y := Fx.grown hg (fun _ e => e)
  refine ⟨⟨h.bc.bytes (.inr rfl) h.o1 f, h.en.free f (freeK h.o1), h.ek.fx f (fun u hu q hq => (h.se u hu q hq).1), hold, ownsRow_fx h.ow f (fun q hq e => h.s1 q hq e), h.s1, h.se, h.dx.fx f (fun e => h.d1 e), h.d1, h.d2, h.fr.trans f (fun i hi e => absurd (h.gl i e) (by omega)), h.gl, h.gw⟩, ho, fun q h1 h2 => ?_⟩
  rcases hn q h2 with h3 | h3
  · exact h.s1 q h1 h3
  · have := (h.ow.lt q h1).2; omega
theorem blk_free {S : Nat → Prop} {w w' : World} {d : Nat} {cs : List Value} {e : TypeId} (h : Blk w d cs e) (hf : Fx S w w') (hS : Free S e w) : Blk w' d cs e :=
  h.fx hf (fun s => hS d cs.toArray s h)
theorem Jm.putK {x0 : World} {S0 : Nat → Prop} {w x y : World} {p : Nat} {L V K K' M : Value} {ls vs kb mb ks ms : List Value} {lv l2 wv : Value} {n d : Nat} {B C E : List UInt8} (h : Jm x0 S0 w x p L V K M ls vs kb mb ks ms lv l2 wv n B d C E) (ho : y.ownsRow w.heap.size 44 1 K' (kb.length + 2) (kb ++ [lv, l2])) (hg : x.grownBy y K.ownBlock) (hn : Nw x K K') (hS : ∀ i, (i = p ∨ K.ownBlock = some i) → S0 i) :
    Jm x0 S0 w (y.setCell ⟨p, 2, none⟩ K') p L V K' M ls vs (kb ++ [lv, l2]) mb ks ms lv l2 wv n B d C E ∧ y.cell? ⟨p, 2, none⟩ = some K ∧ y.frozen? ⟨p, 2, none⟩ = false ∧ Blk y d (C.map byt) 45 := by
  obtain ⟨b, f, c, z⟩ := h.ns.bc.put2 ho hg hn
  have f5 := h.ns.bc.free2 (e := 45) (.inr rfl)
  have fg : Fx (fun k => K.ownBlock = some k) x y := Fx.grown hg (fun _ e => e)
  exact ⟨⟨⟨b, h.ns.en.free f (h.ns.bc.free2 (.inl rfl)), h.ns.ek.free f f5, ownsRow_free h.ns.o1 f f5, ownsRow_free h.ns.ow f f5, h.ns.s1, h.ns.se, blk_free h.ns.dx f f5, h.ns.d1, h.ns.d2, h.ns.fr.trans f (fun i _ s => hS i s), h.ns.gl, h.ns.gw⟩, ownsRow_free h.o2 f f5, h.s2⟩, c, z, h.ns.dx.fx fg (fun e => f5 d _ (.inr e) h.ns.dx)⟩
structure Jq (x0 : World) (S0 : Nat → Prop) (w x : World) (p : Nat) (L V K M : Value) (ls vs kb mb ks ms : List Value) (lv l2 wv v2 : Value) (n : Nat) (B : List UInt8) (d : Nat) (C E : List UInt8) : Prop where
  bc : Bc w x p L V K M ls vs kb mb
  en : Ent 5 1 x ls vs
  ek : Ent 45 32 x ks ms
  o1 : x.ownsRow w.heap.size 45 32 lv n (B.map byt)
  o2 : x.ownsRow w.heap.size 45 32 l2 (n + 2) (E.map byt)
  ow : x.ownsRow w.heap.size 45 32 wv n (B.map byt)
  o3 : x.ownsRow w.heap.size 45 32 v2 (n + 2) (E.map byt)
  dx : Blk x d (C.map byt) 45
  fr : Fx S0 x0 x
theorem Jq.below {x0 : World} {S0 : Nat → Prop} {w x y : World} {p : Nat} {L V K M : Value} {ls vs kb mb ks ms : List Value} {lv l2 wv v2 : Value} {n d : Nat} {B C E : List UInt8} (h : Jq x0 S0 w x p L V K M ls vs kb mb ks ms lv l2 wv v2 n B d C E) (hb : Below x.heap.size x y) : Jq x0 S0 w y p L V K M ls vs kb mb ks ms lv l2 wv v2 n B d C E :=
  ⟨h.bc.below hb, h.en.below hb, h.ek.below hb, ownsRow_below h.o1 hb, ownsRow_below h.o2 hb, ownsRow_below h.ow hb, ownsRow_below h.o3 hb, h.dx.below hb h.dx.lt, h.fr.then_below hb⟩
theorem Jm.app {x0 : World} {S0 : Nat → Prop} {w x y : World} {p : Nat} {L V K M : Value} {ls vs kb mb ks ms : List Value} {lv l2 wv v2 : Value} {n d : Nat} {B C E : List UInt8} (h : Jm x0 S0 w x p L V K M ls vs kb mb ks ms lv l2 wv n B d C E) (ho : y.ownsRow w.heap.size 45 32 v2 (n + 2) (E.map byt)) (hg : x.grownBy y wv.ownBlock) (hold : y.ownsRow w.heap.size 45 32 wv n (B.map byt)) : Jq x0 S0 w y p L V K M ls vs kb mb ks ms lv l2 wv v2 n B d C E := by
  have f : Fx (fun k => wv.ownBlock = some k) x y := Fx.grown hg (fun _ e => e)
  exact ⟨h.ns.bc.bytes (.inr rfl) h.ns.ow f, h.ns.en.free f (freeK h.ns.ow), h.ns.ek.fx f (fun u hu q hq => (h.ns.se u hu q hq).2), ownsRow_fx h.ns.o1 f (fun q hq e => h.ns.s1 q e hq), ownsRow_fx h.o2 f (fun q hq e => h.s2 q e hq), hold, ho, h.ns.dx.fx f (fun e => h.ns.d2 e), h.ns.fr.trans f (fun i hi e => absurd (h.ns.gw i e) (by omega))⟩
theorem Jq.putM {x0 : World} {S0 : Nat → Prop} {w x y : World} {p : Nat} {L V K M M' : Value} {ls vs ks ms : List Value} {lv l2 wv v2 : Value} {n d : Nat} {B C E : List UInt8} (h : Jq x0 S0 w x p L V K M ls vs (ks ++ [lv, l2]) ms ks ms lv l2 wv v2 n B d C E) (ho : y.ownsRow w.heap.size 44 1 M' (ms.length + 2) (ms ++ [wv, v2])) (hg : x.grownBy y M.ownBlock) (hn : Nw x M M') (hS : ∀ i, (i = p ∨ M.ownBlock = some i) → S0 i) :
    (Bc w (y.setCell ⟨p, 3, none⟩ M') p L V K M' ls vs (ks ++ [lv, l2]) (ms ++ [wv, v2]) ∧ Ent 5 1 (y.setCell ⟨p, 3, none⟩ M') ls vs ∧ Ent 45 32 (y.setCell ⟨p, 3, none⟩ M') (ks ++ [lv, l2]) (ms ++ [wv, v2]) ∧ Blk (y.setCell ⟨p, 3, none⟩ M') d (C.map byt) 45 ∧ Fx S0 x0 (y.setCell ⟨p, 3, none⟩ M')) ∧ y.cell? ⟨p, 3, none⟩ = some M ∧ y.frozen? ⟨p, 3, none⟩ = false ∧ Blk y d (C.map byt) 45 := by
  obtain ⟨b, f, c, z⟩ := h.bc.put3 ho hg hn
  have f5 := h.bc.free3 (e := 45) (.inr rfl)
  have fg : Fx (fun k => M.ownBlock = some k) x y := Fx.grown hg (fun _ e => e)
  have e1 := (h.ek.free f f5).snoc (ownsRow_weaken (ownsRow_free h.o1 f f5)) (ownsRow_weaken (ownsRow_free h.ow f f5))
  have e2 := e1.snoc (ownsRow_weaken (ownsRow_free h.o2 f f5)) (ownsRow_weaken (ownsRow_free h.o3 f f5))
  rw [List.append_assoc, List.append_assoc] at e2
  exact ⟨⟨b, h.en.free f (h.bc.free3 (.inl rfl)), e2, blk_free h.dx f f5, h.fr.trans f (fun i _ s => hS i s)⟩, c, z, h.dx.fx fg (fun e => f5 d _ (.inr e) h.dx)⟩
end Go.Proofs.YtablmkijlpoaaabDoor
namespace Go.Proofs.YtablmkijlpoaaabDoor
open Go.RowKit

theorem len25 (ao : Option Addr) (n c : Nat) (W : World) (ty : TypeId) : (Builtin.len_ #[25] ty #[.slice ao n c]).run Tryd.prog W = .ok (.int .i64 n) W := by go_simp
theorem len44 (ao : Option Addr) (n c : Nat) (W : World) (ty : TypeId) : (Builtin.len_ #[44] ty #[.slice ao n c]).run Tryd.prog W = .ok (.int .i64 n) W := by go_simp
def keyOf (c : UInt8) : List UInt8 := c :: 209 :: List.replicate 30 0
theorem keyOf_length (c : UInt8) : (keyOf c).length = 32 := rfl
theorem built45 (c : UInt8) : Tryd.prog.built 45 [(0, .int .u8 (c.toNat : Int)), (1, .int .u8 209)] = some ((keyOf c).map byt).toArray := by
  kernel_rfl
theorem zero45 (w : World) : (zeroValue 45).run Tryd.prog w = .ok (.agg (z32.map byt).toArray) w := by
  rw [Tryd.zeroValue45]; rfl
theorem info45l (D : List UInt8) (h : D.length = 32) : (Tryd.prog.info? 45).map (·.size) = some (D.map byt).length := by rw [List.length_map, h]; kernel_rfl
theorem info45s (D : List UInt8) (h : D.length = 32) : (Tryd.prog.info? 45).map (·.size) = some (D.map byt).toArray.size := by rw [List.size_toArray]; exact info45l D h

theorem ownsRow_to {w : World} {base base' : Nat} {e : TypeId} {size : Nat} {v : Value} {n : Nat} {xs : List Value} (h : w.ownsRow base e size v n xs) (hb : base' ≤ base) : w.ownsRow base' e size v n xs := by
  obtain ⟨h1, h | ⟨g, cap, cur, rfl, hg, r⟩⟩ := h
  · exact ⟨h1, .inl h⟩
  · exact ⟨h1, .inr ⟨g, cap, cur, rfl, Nat.le_trans hb hg, r⟩⟩
theorem blk_range {w : World} {d : Nat} {cs : List Value} {e : TypeId} (h : Blk w d cs e) : w.rangeAt d 0 cs := fun j v hj => by rw [Nat.zero_add, h.cell]; exact hj
theorem run_bsv (z : World) {ev : Operand → Value} {o : Oper} {x y : Operand} {C : List UInt8} (ho : o.op = .buildSlice 44 2 #[(0, x), (1, y)]) (hx : ev x = .agg (C.map byt).toArray) (hy : ev y = .agg (C.map byt).toArray) (hC : C.length = 32) :
    (execOp ev o).run Tryd.prog z = .ok (.value (.slice (some ⟨z.heap.size, 0, none⟩) 2 2)) (z.alloc (.cells (C.map byt ++ C.map byt).toArray 45)) := by
  unfold execOp
  simp only [ho, List.map_toArray, List.map_cons, List.map_nil, hx, hy, Sem.run_bind, run_bs2 (P := Tryd.prog) z 44 45 (C.map byt) (C.map byt) (by kernel_rfl) (by kernel_rfl) (by kernel_rfl) (by rw [List.length_map, hC]) (by rw [List.length_map, hC]), Result.andThen_ok]
  rfl

set_option maxHeartbeats 1000000 in
set_option maxRecDepth 100000 in
/-- 'Note32'. -/
theorem note32_any (w x y : World) (p : Nat) (L V K M lv : Value) (ls vs ks ms : List Value) (n : Nat) (X : List UInt8) (hB : Bc w x p L V K M ls vs ks ms) (hE : Ent 5 1 x ls vs) (hK : Ent 45 32 x ks ms) (hxy : Below x.heap.size x y) (hl : y.ownsRow x.heap.size 45 32 lv n (X.map byt)) (hbs : n ≤ 255) (hn : ks.length ≤ 1000) :
    Calls Tryd.prog 30 #[.pointer (some ⟨p, 0, none⟩), lv] y fun e z => e = .returned (.tuple #[]) ∧ ∃ K' M' ks' ms', Bc w z p L V K' M' ls vs ks' ms' ∧ Ent 5 1 z ls vs ∧ Ent 45 32 z ks' ms' ∧ ks'.length = ks.length + 2 ∧ Fx (fun k => k = p ∨ K.ownBlock = some k ∨ M.ownBlock = some k) x z := by
  obtain ⟨al, cl, rfl⟩ := ownsRow_slice hl
  obtain ⟨aK, cK, rfl⟩ := ownsRow_slice hB.ok
  obtain ⟨aM, cM, rfl⟩ := ownsRow_slice hB.om
  have HXL : Lk X.length (32 * n) := ⟨by have := hl.1; rw [List.length_map] at this; omega⟩
  have cK0 : y.cell? ⟨p, 2, none⟩ = some (.slice aK ks.length cK) := (hB.below hxy).bk.cell 2
  have LY : Hid (∀ q, (Value.slice al n cl).ownBlock = some q → q < y.heap.size) := hide (fun q hq => (hl.lt q hq).2)
  have HXY := hide hxy
  have HB := hide hB
  have HE := hide hE
  have HK := hide hK
  have HL := hide hl
  obtain ⟨nk, hnk⟩ : ∃ nk, ks.length = nk := ⟨_, rfl⟩
  have HNK : Lk ks.length nk := ⟨hnk⟩
  have HMK : Lk ms.length nk := ⟨by rw [← hK.ll]; exact hnk⟩
  rw [hnk] at cK0 HB hn ⊢
  obtain ⟨c, hc⟩ : ∃ c : UInt8, UInt8.ofNat (nk + 1) = c := ⟨_, rfl⟩
  have hcz : ((nk : Int) + 1) % 256 = (c.toNat : Int) := by rw [← hc, UInt8.toNat_ofNat']; omega
  have hbt := built45 c
  obtain ⟨C, hC⟩ : ∃ C, keyOf c = C := ⟨_, rfl⟩
  have HCL : Lk C.length 32 := ⟨by rw [← hC]; rfl⟩
  rw [hC] at hbt
  have hsC := info45s C HCL.h
  have hln := fun W ty => len25 aK nk cK W ty
  have hll := fun W ty => len44 al n cl W ty
  clear hB hE hK hl hnk hc hC
  go_enter Tryd.func30, Tryd.ntmps30
  have Bz : Hid (Blk ((y.alloc (.cells (z32.map byt).toArray 45)).setRow y.heap.size (C.map byt).toArray) y.heap.size (C.map byt) 45) := hide ((Blk.new y (z32.map byt) 45).setRow (C.map byt))
  have By : Hid (Below y.heap.size y ((y.alloc (.cells (z32.map byt).toArray 45)).setRow y.heap.size (C.map byt).toArray)) := hide (below_setRow (below_new y _) _ _ (Nat.le_refl _))
  have Sy : Hid (((y.alloc (.cells (z32.map byt).toArray 45)).setRow y.heap.size (C.map byt).toArray).heap.size = y.heap.size + 1) := hide (by rw [setRow_size]; simp)
  go_upto_region 1 with (first
    | (refine wpList_bld rfl 45 #[(0, .tmp 13), (1, .const (.int .u8 209))] rfl [(0, .int .u8 (c.toNat : Int)), (1, .int .u8 209)] (by simp [Act.eval, hcz]) (C.map byt).toArray hbt ?_)
    | (refine wpList_newAt rfl 45 rfl (z32.map byt) zero45 y.heap.size rfl ?_)
    | (refine wpList_store_row rfl 45 (.tmp 4) (.tmp 14) rfl y.heap.size (C.map byt).toArray rfl rfl 45 (z32.map byt).toArray (Blk.new y _ _) hsC (by rw [List.size_toArray, List.size_toArray, List.length_map, List.length_map, HCL.h]; rfl) (byts_one _) ?_)
    | fail)
  have B1 : Hid (Below x.heap.size x ((y.alloc (.cells (z32.map byt).toArray 45)).setRow y.heap.size (C.map byt).toArray)) := hide (HXY.out.trans (By.out.mono HXY.out.size))
  have HL1 : Hid (((y.alloc (.cells (z32.map byt).toArray 45)).setRow y.heap.size (C.map byt).toArray).ownsRow x.heap.size 45 32 (.slice al n cl) n (X.map byt)) := hide (ownsRow_below HL.out By.out)
  generalize (y.alloc (.cells (z32.map byt).toArray 45)).setRow y.heap.size (C.map byt).toArray = y1 at Bz By Sy B1 HL1 ⊢
  obtain ⟨d, hd⟩ : ∃ d, y.heap.size = d := ⟨_, rfl⟩
  rw [hd] at Bz Sy LY ⊢
  have HD : Hid (x.heap.size ≤ d) := hide (by rw [← hd]; exact HXY.out.size)
  clear hd By HL cK0 hln hcz hbt
  go_wp2
  go_loopw [5, 6] (fun t i wr => ∃ k : Nat, k ≤ n ∧ i = .int .i64 k ∧ ∃ at_ ct, t = .slice at_ k ct ∧ Hid (wr.ownsRow x.heap.size 45 32 (.slice al n cl) n ((rep C k ++ X.drop (32 * k)).map byt) ∧ wr.ownsRow (d + 1) 45 32 (.slice at_ k ct) k ((rep C k).map byt) ∧ Below x.heap.size x wr ∧ d + 1 ≤ wr.heap.size ∧ Blk wr d (C.map byt) 45)) (fun _ i _ => n - (intOf i).toNat)
  case atStart => exact ⟨0, by omega, rfl, none, 0, rfl, hide ⟨HL1.out, World.ownsRow_nil _ _ _ _, B1.out, by rw [Sy.out]; exact Nat.le_refl _, Bz.out⟩⟩
  case round =>
    obtain ⟨k, hk, rfl, at_, ct, rfl, hy⟩ := hrel
    by_cases hlt : k < n
    · have hi : (k : Int) < (n : Int) := by omega
      obtain ⟨g, cap, hsh, hgx, hgl, hth, hset⟩ := rowK_write hy.out.1 k hlt C HCL.h
      simp only [Value.slice.injEq, true_and] at hsh
      obtain ⟨rfl, rfl⟩ := hsh
      have hix := fun W => idx44 ⟨g, 0, none⟩ n cl k hlt W
      rw [add_plain, Nat.mul_comm k 32] at hix
      rw [rep_write C X n k HCL.h HXL.h hlt] at hset
      have hgd := LY.out g rfl
      have X1 : Hid ((wr.setCells g (32 * k) (C.map byt)).ownsRow x.heap.size 45 32 (.slice (some ⟨g, 0, none⟩) n cl) n ((rep C (k + 1) ++ X.drop (32 * (k + 1))).map byt) ∧ (wr.setCells g (32 * k) (C.map byt)).ownsRow (d + 1) 45 32 (.slice at_ k ct) k ((rep C k).map byt) ∧ Below x.heap.size x (wr.setCells g (32 * k) (C.map byt)) ∧ d + 1 ≤ (wr.setCells g (32 * k) (C.map byt)).heap.size ∧ Blk (wr.setCells g (32 * k) (C.map byt)) d (C.map byt) 45) := hide (by
        have hf : Fx (One g) wr (wr.setCells g (32 * k) (C.map byt)) := Fx.setCells (S := One g) g rfl _ _ _
        exact ⟨hset, ownsRow_fx hy.out.2.1 hf (fun q hq (e : q = g) => by have := (hy.out.2.1.lt q hq).1; omega), hy.out.2.2.1.trans (hf.below (fun j hj (e : j = g) => by omega) hy.out.2.2.1.size), Nat.le_trans hy.out.2.2.2.1 hf.size, hy.out.2.2.2.2.fx hf (fun e : d = g => by omega)⟩)
      have HTH := hide hth
      have DX := hide hy.out.2.2.2.2
      have hsCl := info45l C HCL.h
      clear hset hth hy
      go_upto_region 6 with (first
        | (refine wpList_load_row rfl 45 (.tmp 4) rfl d rfl 45 (C.map byt).toArray (0, 0) _ DX.out Tryd.underlying45 rfl hsC ?_)
        | (refine wpList_store_mid rfl 45 (.tmp 24) (.tmp 23) rfl g (32 * k) (C.map byt).toArray rfl rfl (by rw [List.size_toArray, List.length_map, HCL.h]; exact HTH.out) hsC (byts_one _) ?_)
        | fail)
      generalize wr.setCells g (32 * k) (C.map byt) = x1 at X1 ⊢
      have NEWS : Hid (∀ j u, (C.map byt)[j]? = some u → (x1.alloc (.cells (C.map byt).toArray 45)).cell? ((⟨x1.heap.size, 0, none⟩ : Addr).add j) = some u) := hide (fun j u hj => by rw [add_plain, (Blk.new x1 (C.map byt) 45).cell]; exact hj)
      have OW : Hid ((x1.alloc (.cells (C.map byt).toArray 45)).ownsRow (d + 1) 45 32 (.slice at_ k ct) k ((rep C k).map byt)) := hide (ownsRow_below X1.out.2.1 (below_new x1 _))
      have SZ : Hid (d + 1 ≤ (x1.alloc (.cells (C.map byt).toArray 45)).heap.size) := hide (Nat.le_trans X1.out.2.2.2.1 (below_new x1 _).size)
      have HCM : Hid ((C.map byt).length = 1 * 32) := hide (by rw [List.length_map, HCL.h])
      have H1 : Hid (∀ u ∈ C.map byt, u.oneCell' = true) := hide (byt_one C)
      have hkn : k + 1 ≤ 1000000 := by omega
      clear HTH DX
      go_wp2_with (first
        | (refine wpList_load_row rfl 45 (.tmp 4) rfl d rfl 45 (C.map byt).toArray (0, 0) _ X1.out.2.2.2.2 Tryd.underlying45 rfl hsC ?_)
        | (refine wpList_bs1 rfl 44 45 (.tmp 26) rfl (C.map byt) rfl (by kernel_rfl) (by kernel_rfl) (by kernel_rfl) (by rw [List.length_map, HCL.h]) x1.heap.size rfl ?_)
        | (refine wpList_appE elt44 rfl (.tmp 25) (.tmp 27) rfl (d + 1) (.slice at_ k ct) k ((rep C k).map byt) rfl OW.out ⟨x1.heap.size, 0, none⟩ 1 1 (C.map byt) rfl HCM.out NEWS.out H1.out hkn SZ.out ?_; intro v3 w3 ho3 hg3 _ _; obtain ⟨a3, c3, rfl⟩ := ownsRow_slice ho3; have O3 := hide ho3; have G3 := hide hg3; clear ho3 hg3)
        | fail)
      have b2 := below_new x1 (.cells (C.map byt).toArray 45)
      have f3 : Fx (fun j => (Value.slice at_ k ct).ownBlock = some j) (x1.alloc (.cells (C.map byt).toArray 45)) w3 := Fx.grown G3.out (fun _ e => e)
      have hne : ∀ q, q ≤ d → (Value.slice at_ k ct).ownBlock = some q → False := fun q hq e => by have := (OW.out.lt q e).1; omega
      have O4 := O3.out
      rw [← List.map_append] at O4
      go_roundw
      case rel =>
        refine ⟨k + 1, by omega, by go_num, a3, c3, rfl, hide ⟨ownsRow_fx (ownsRow_below X1.out.1 b2) f3 (fun q hq e => ?_), O4, (X1.out.2.2.1.trans (b2.mono X1.out.2.2.1.size)).grown G3.out (Nat.le_trans X1.out.2.2.1.size b2.size) (fun q hq => ?_), Nat.le_trans SZ.out f3.size, (X1.out.2.2.2.2.below b2 X1.out.2.2.2.2.lt).fx f3 (fun e => hne d (Nat.le_refl _) e)⟩⟩
        · have h1 := LY.out q hq
          exact hne q (by omega) e
        · have h2 := (OW.out.lt q hq).1
          have h3 := HD.out
          omega
      case measure => simp [intOf]; omega
    · obtain rfl : k = n := by omega
      have hi : ¬ (k : Int) < (k : Int) := by omega
      obtain ⟨Mk, hMk⟩ : ∃ Mk, rep C k = Mk := ⟨_, rfl⟩
      have hy2 := hy.out
      rw [List.drop_of_length_le (by rw [HXL.h]; exact Nat.le_refl _), List.append_nil, hMk] at hy2
      have A0 : Hid (Js x (fun k => k = p ∨ (Value.slice aK nk cK).ownBlock = some k ∨ (Value.slice aM ms.length cM).ownBlock = some k) w wr p L V (.slice aK nk cK) (.slice aM ms.length cM) ls vs ks ms ks ms (.slice al k cl) (.slice at_ k ct) k Mk d C) := hide (by
        have hle := HD.out
        refine ⟨HB.out.below hy2.2.2.1, HE.out.below hy2.2.2.1, HK.out.below hy2.2.2.1, ownsRow_to hy2.1 HB.out.be.size, ownsRow_to hy2.2.1 (by have := HB.out.be.size; omega), fun q h1 h2 => ?_, fun u hu q hq => ⟨fun e => ?_, fun e => ?_⟩, hy2.2.2.2.2, fun e => ?_, fun e => ?_, ?_, ?_, ?_⟩
        · have := (hy2.2.1.lt q h1).1
          have := LY.out q h2
          omega
        · have := HK.out.lt u hu q hq
          have := (hy2.1.lt q e).1
          omega
        · have := HK.out.lt u hu q hq
          have := (hy2.2.1.lt q e).1
          omega
        · have := LY.out d e
          omega
        · have := (hy2.2.1.lt d e).1
          omega
        · exact Fx.of_below hy2.2.2.1
        · intro q hq
          exact (hy2.1.lt q hq).1
        · intro q hq
          have := (hy2.2.1.lt q hq).1
          omega)
      have hsCl := info45l C HCL.h
      have HCC : Hid ((C.map byt ++ C.map byt).length = 2 * 32) := hide (by rw [List.length_append, List.length_map, HCL.h])
      have HC1 : Hid (∀ u ∈ C.map byt ++ C.map byt, u.oneCell' = true) := hide (by rw [← List.map_append]; exact byt_one _)
      clear hy hy2 hMk HB HE HK HL1 B1 Bz Sy
      go_upto_region 7 with fail
      go_cut [43] (fun _ wx => ∃ a5 c5 a2 c2, Hid (Jm x (fun k => k = p ∨ (Value.slice aK nk cK).ownBlock = some k ∨ (Value.slice aM ms.length cM).ownBlock = some k) w wx p L V (.slice a5 (nk + 2) c5) (.slice aM ms.length cM) ls vs (ks ++ [.slice al k cl, .slice a2 (k + 2) c2]) ms ks ms (.slice al k cl) (.slice a2 (k + 2) c2) (.slice at_ k ct) k Mk d C (Mk ++ (C ++ C))))
      case first =>
        refine wp_region_noPanic ?_
        refine wp_region_held (S := fun W => W.rangeAt d 0 (C.map byt)) (by kernel_rfl) ?_
        have Z0 : Js x (fun k => k = p ∨ (Value.slice aK nk cK).ownBlock = some k ∨ (Value.slice aM ms.length cM).ownBlock = some k) w { wr with drawn := wr.drawn + 1 } p L V (.slice aK nk cK) (.slice aM ms.length cM) ls vs ks ms ks ms (.slice al k cl) (.slice at_ k ct) k Mk d C := A0.out.below (Below.refl _ _).drew
        generalize { wr with drawn := wr.drawn + 1 } = z0 at Z0 ⊢
        have R0 : z0.rangeAt d 0 (C.map byt) := blk_range Z0.dx
        refine takeH (i := 0) rfl (.move (.tmp 0)) rfl 29 rfl (v := (.pointer (some ⟨p, 0, none⟩))) (by kernel_rfl) (by kernel_rfl) (by kernel_rfl) (fun _ _ _ h => h) (by rfl) (fun o' ho W hW => by clear hW; go_simp) R0 ?_
        simp only [Act.put, List.setIfInBounds_toArray, List.set_cons_zero, List.set_cons_succ]
        refine takeH (i := 1) rfl (.move (.tmp 0)) rfl 30 rfl (v := (.pointer (some ⟨p, 0, none⟩))) (by kernel_rfl) (by kernel_rfl) (by kernel_rfl) (fun _ _ _ h => h) (by rfl) (fun o' ho W hW => by clear hW; go_simp) R0 ?_
        simp only [Act.put, List.setIfInBounds_toArray, List.set_cons_zero, List.set_cons_succ]
        refine takeH (i := 2) rfl (.nilCheck (.tmp 30)) rfl 31 rfl (v := (.pointer (some ⟨p, 0, none⟩))) (by kernel_rfl) (by kernel_rfl) (by kernel_rfl) (fun _ _ _ h => h) (by rfl) (fun o' ho W hW => by clear hW; go_simp) R0 ?_
        simp only [Act.put, List.setIfInBounds_toArray, List.set_cons_zero, List.set_cons_succ]
        refine takeH (i := 3) rfl (.fieldAddr 27 (.tmp 31) 2) rfl 32 rfl (v := (.pointer (some ⟨p, 2, none⟩))) (by kernel_rfl) (by kernel_rfl) (by kernel_rfl) (fun _ _ _ h => h) (by rfl) (fun o' ho W hW => by clear hW; go_simp) R0 ?_
        simp only [Act.put, List.setIfInBounds_toArray, List.set_cons_zero, List.set_cons_succ]
        refine takeH (i := 5) rfl (.move (.tmp 1)) rfl 34 rfl (v := (.slice al k cl)) (by kernel_rfl) (by kernel_rfl) (by kernel_rfl) (fun _ _ _ h => h) (by rfl) (fun o' ho W hW => by clear hW; go_simp) R0 ?_
        simp only [Act.put, List.setIfInBounds_toArray, List.set_cons_zero, List.set_cons_succ]
        refine takeH (i := 6) rfl (.move (.tmp 1)) rfl 35 rfl (v := (.slice al k cl)) (by kernel_rfl) (by kernel_rfl) (by kernel_rfl) (fun _ _ _ h => h) (by rfl) (fun o' ho W hW => by clear hW; go_simp) R0 ?_
        simp only [Act.put, List.setIfInBounds_toArray, List.set_cons_zero, List.set_cons_succ]
        refine takeH_load (i := 7) rfl 36 rfl 45 (.tmp 4) rfl (by kernel_rfl) (by kernel_rfl) (by kernel_rfl) (fun _ _ _ h => h) (by rfl) d 0 rfl (C.map byt) rfl (fun W hW => hW) Tryd.underlying45 rfl hsCl R0 ?_
        simp only [Act.put, List.setIfInBounds_toArray, List.set_cons_zero, List.set_cons_succ]
        refine takeH_load (i := 8) rfl 37 rfl 45 (.tmp 4) rfl (by kernel_rfl) (by kernel_rfl) (by kernel_rfl) (fun _ _ _ h => h) (by rfl) d 0 rfl (C.map byt) rfl (fun W hW => hW) Tryd.underlying45 rfl hsCl R0 ?_
        simp only [Act.put, List.setIfInBounds_toArray, List.set_cons_zero, List.set_cons_succ]
        refine eitherH (i := 4) (j := 9) (by kernel_rfl) ?_ ?_
        · have pc : z0.cell? ⟨p, 2, none⟩ = some (.slice aK nk cK) := Z0.bc.bk.cell 2
          refine opG_run rfl (by rfl) (.load 25 (.tmp 32)) rfl 33 rfl (.slice aK nk cK) z0 (fun o' ho => by go_simp) ?_
          refine ⟨blk_range Z0.dx, ?_⟩
          clear pc
          simp only [Act.put, List.setIfInBounds_toArray, List.set_cons_zero, List.set_cons_succ]
          refine onlyH (i := 9) (by kernel_rfl) ?_
          refine opG_run rfl (by rfl) (.buildSlice 44 2 #[(0, .tmp 36), (1, .tmp 37)]) rfl 38 rfl (.slice (some ⟨z0.heap.size, 0, none⟩) 2 2) (z0.alloc (.cells (C.map byt ++ C.map byt).toArray 45)) (fun o' ho => run_bsv z0 ho rfl rfl HCL.h) ?_
          have Zb := Z0.below (below_new z0 (.cells (C.map byt ++ C.map byt).toArray 45))
          have nx : ∀ j u, (C.map byt ++ C.map byt)[j]? = some u → (z0.alloc (.cells (C.map byt ++ C.map byt).toArray 45)).cell? ((⟨z0.heap.size, 0, none⟩ : Addr).add j) = some u := fun j u hj => by rw [add_plain]; exact ((Blk.new z0 (C.map byt ++ C.map byt) 45).cell j).trans hj
          generalize z0.alloc (.cells (C.map byt ++ C.map byt).toArray 45) = zb at Zb nx ⊢
          generalize z0.heap.size = dq at nx ⊢
          refine ⟨blk_range Zb.dx, ?_⟩
          simp only [Act.put, List.setIfInBounds_toArray, List.set_cons_zero, List.set_cons_succ]
          refine onlyH (i := 10) (by kernel_rfl) ?_
          refine op_appE elt44 rfl rfl (.tmp 35) (.tmp 38) rfl 39 rfl w.heap.size (.slice al k cl) k (Mk.map byt) rfl Zb.o1 ⟨dq, 0, none⟩ 2 2 (C.map byt ++ C.map byt) rfl HCC.out nx HC1.out (by omega) Zb.bc.be.size ?_
          intro l2 zc ho2 hg2 hn2 hold2
          obtain ⟨a2, c2, rfl⟩ := ownsRow_slice ho2
          have ho2' := ho2
          rw [← List.map_append, ← List.map_append] at ho2'
          have Zc := Zb.app ho2' hg2 hn2 hold2
          clear ho2 ho2' hg2 hn2 hold2 nx
          refine ⟨blk_range Zc.ns.dx, ?_⟩
          simp only [Act.put, List.setIfInBounds_toArray, List.set_cons_zero, List.set_cons_succ]
          refine onlyH (i := 11) (by kernel_rfl) ?_
          refine opG_run rfl (by rfl) (.buildSlice 25 2 #[(0, .tmp 34), (1, .tmp 39)]) rfl 40 rfl (.slice (some ⟨zc.heap.size, 0, none⟩) 2 2) (zc.alloc (.cells #[(.slice al k cl), .slice a2 (k + 2) c2] 44)) (fun o' ho => by go_simp) ?_
          have Zd := Zc.below (below_new zc (.cells #[(.slice al k cl), .slice a2 (k + 2) c2] 44))
          have ny : ∀ j u, [(.slice al k cl), .slice a2 (k + 2) c2][j]? = some u → (zc.alloc (.cells #[(.slice al k cl), .slice a2 (k + 2) c2] 44)).cell? ((⟨zc.heap.size, 0, none⟩ : Addr).add j) = some u := fun j u hj => by rw [add_plain]; exact ((Blk.new zc [(.slice al k cl), .slice a2 (k + 2) c2] 44).cell j).trans hj
          generalize zc.alloc (.cells #[(.slice al k cl), .slice a2 (k + 2) c2] 44) = zd at Zd ny ⊢
          generalize zc.heap.size = dy at ny ⊢
          refine ⟨blk_range Zd.ns.dx, ?_⟩
          simp only [Act.put, List.setIfInBounds_toArray, List.set_cons_zero, List.set_cons_succ]
          refine onlyH (i := 12) (by kernel_rfl) ?_
          refine op_appE elt25 rfl rfl (.tmp 33) (.tmp 40) rfl 41 rfl w.heap.size (.slice aK nk cK) nk ks rfl (by have := Zd.ns.bc.ok; rw [HNK.h] at this; exact this) ⟨dy, 0, none⟩ 2 2 [(.slice al k cl), .slice a2 (k + 2) c2] rfl rfl ny (by simp [Value.oneCell']) (by omega) Zd.ns.bc.be.size ?_
          intro L1 ze ho5 hg5 hn5 _
          obtain ⟨a5, c5, rfl⟩ := ownsRow_slice ho5
          obtain ⟨Z6, pc, pf, pd⟩ := Zd.putK (by rw [HNK.h]; exact ho5) hg5 hn5 (fun i s => s.imp id .inl)
          have RE := blk_range pd
          refine ⟨RE, ?_⟩
          simp only [Act.put, List.setIfInBounds_toArray, List.set_cons_zero, List.set_cons_succ]
          refine takeH (i := 13) rfl (.nilCheck (.tmp 29)) rfl 42 rfl (v := (.pointer (some ⟨p, 0, none⟩))) (by kernel_rfl) (by kernel_rfl) (by kernel_rfl) (fun _ _ _ h => h) (by rfl) (fun o' ho W hW => by clear hW; go_simp) RE ?_
          simp only [Act.put, List.setIfInBounds_toArray, List.set_cons_zero, List.set_cons_succ]
          refine takeH (i := 14) rfl (.fieldAddr 27 (.tmp 42) 2) rfl 43 rfl (v := (.pointer (some ⟨p, 2, none⟩))) (by kernel_rfl) (by kernel_rfl) (by kernel_rfl) (fun _ _ _ h => h) (by rfl) (fun o' ho W hW => by clear hW; go_simp) RE ?_
          simp only [Act.put, List.setIfInBounds_toArray, List.set_cons_zero, List.set_cons_succ]
          refine onlyH (i := 15) (by kernel_rfl) ?_
          refine op_skip rfl rfl (.store 25 (.tmp 43) (.tmp 41)) rfl rfl (ze.setCell ⟨p, 2, none⟩ (.slice a5 (nk + 2) c5)) (fun o' ho => by go_simp) ?_
          have Z7 := hide Z6
          refine ⟨blk_range Z7.out.ns.dx, ?_⟩
          clear Z6 pc pf pd RE ho5 hg5 hn5
          generalize ze.setCell ⟨p, 2, none⟩ (.slice a5 (nk + 2) c5) = zf at Z7 ⊢
          refine wpAnyH_done (by kernel_rfl) (NoPanic.normal ?_) _
          go_wp2_with fail
          go_meet
          exact ⟨_, _, _, _, Z7⟩
        · refine opG_run rfl (by rfl) (.buildSlice 44 2 #[(0, .tmp 36), (1, .tmp 37)]) rfl 38 rfl (.slice (some ⟨z0.heap.size, 0, none⟩) 2 2) (z0.alloc (.cells (C.map byt ++ C.map byt).toArray 45)) (fun o' ho => run_bsv z0 ho rfl rfl HCL.h) ?_
          have Zb := Z0.below (below_new z0 (.cells (C.map byt ++ C.map byt).toArray 45))
          have nx : ∀ j u, (C.map byt ++ C.map byt)[j]? = some u → (z0.alloc (.cells (C.map byt ++ C.map byt).toArray 45)).cell? ((⟨z0.heap.size, 0, none⟩ : Addr).add j) = some u := fun j u hj => by rw [add_plain]; exact ((Blk.new z0 (C.map byt ++ C.map byt) 45).cell j).trans hj
          generalize z0.alloc (.cells (C.map byt ++ C.map byt).toArray 45) = zb at Zb nx ⊢
          generalize z0.heap.size = dq at nx ⊢
          refine ⟨blk_range Zb.dx, ?_⟩
          simp only [Act.put, List.setIfInBounds_toArray, List.set_cons_zero, List.set_cons_succ]
          refine eitherH (i := 4) (j := 10) (by kernel_rfl) ?_ ?_
          · have pc : zb.cell? ⟨p, 2, none⟩ = some (.slice aK nk cK) := Zb.bc.bk.cell 2
            refine opG_run rfl (by rfl) (.load 25 (.tmp 32)) rfl 33 rfl (.slice aK nk cK) zb (fun o' ho => by go_simp) ?_
            refine ⟨blk_range Zb.dx, ?_⟩
            clear pc
            simp only [Act.put, List.setIfInBounds_toArray, List.set_cons_zero, List.set_cons_succ]
            refine onlyH (i := 10) (by kernel_rfl) ?_
            refine op_appE elt44 rfl rfl (.tmp 35) (.tmp 38) rfl 39 rfl w.heap.size (.slice al k cl) k (Mk.map byt) rfl Zb.o1 ⟨dq, 0, none⟩ 2 2 (C.map byt ++ C.map byt) rfl HCC.out nx HC1.out (by omega) Zb.bc.be.size ?_
            intro l2 zc ho2 hg2 hn2 hold2
            obtain ⟨a2, c2, rfl⟩ := ownsRow_slice ho2
            have ho2' := ho2
            rw [← List.map_append, ← List.map_append] at ho2'
            have Zc := Zb.app ho2' hg2 hn2 hold2
            clear ho2 ho2' hg2 hn2 hold2 nx
            refine ⟨blk_range Zc.ns.dx, ?_⟩
            simp only [Act.put, List.setIfInBounds_toArray, List.set_cons_zero, List.set_cons_succ]
            refine onlyH (i := 11) (by kernel_rfl) ?_
            refine opG_run rfl (by rfl) (.buildSlice 25 2 #[(0, .tmp 34), (1, .tmp 39)]) rfl 40 rfl (.slice (some ⟨zc.heap.size, 0, none⟩) 2 2) (zc.alloc (.cells #[(.slice al k cl), .slice a2 (k + 2) c2] 44)) (fun o' ho => by go_simp) ?_
            have Zd := Zc.below (below_new zc (.cells #[(.slice al k cl), .slice a2 (k + 2) c2] 44))
            have ny : ∀ j u, [(.slice al k cl), .slice a2 (k + 2) c2][j]? = some u → (zc.alloc (.cells #[(.slice al k cl), .slice a2 (k + 2) c2] 44)).cell? ((⟨zc.heap.size, 0, none⟩ : Addr).add j) = some u := fun j u hj => by rw [add_plain]; exact ((Blk.new zc [(.slice al k cl), .slice a2 (k + 2) c2] 44).cell j).trans hj
            generalize zc.alloc (.cells #[(.slice al k cl), .slice a2 (k + 2) c2] 44) = zd at Zd ny ⊢
            generalize zc.heap.size = dy at ny ⊢
            refine ⟨blk_range Zd.ns.dx, ?_⟩
            simp only [Act.put, List.setIfInBounds_toArray, List.set_cons_zero, List.set_cons_succ]
            refine onlyH (i := 12) (by kernel_rfl) ?_
            refine op_appE elt25 rfl rfl (.tmp 33) (.tmp 40) rfl 41 rfl w.heap.size (.slice aK nk cK) nk ks rfl (by have := Zd.ns.bc.ok; rw [HNK.h] at this; exact this) ⟨dy, 0, none⟩ 2 2 [(.slice al k cl), .slice a2 (k + 2) c2] rfl rfl ny (by simp [Value.oneCell']) (by omega) Zd.ns.bc.be.size ?_
            intro L1 ze ho5 hg5 hn5 _
            obtain ⟨a5, c5, rfl⟩ := ownsRow_slice ho5
            obtain ⟨Z6, pc, pf, pd⟩ := Zd.putK (by rw [HNK.h]; exact ho5) hg5 hn5 (fun i s => s.imp id .inl)
            have RE := blk_range pd
            refine ⟨RE, ?_⟩
            simp only [Act.put, List.setIfInBounds_toArray, List.set_cons_zero, List.set_cons_succ]
            refine takeH (i := 13) rfl (.nilCheck (.tmp 29)) rfl 42 rfl (v := (.pointer (some ⟨p, 0, none⟩))) (by kernel_rfl) (by kernel_rfl) (by kernel_rfl) (fun _ _ _ h => h) (by rfl) (fun o' ho W hW => by clear hW; go_simp) RE ?_
            simp only [Act.put, List.setIfInBounds_toArray, List.set_cons_zero, List.set_cons_succ]
            refine takeH (i := 14) rfl (.fieldAddr 27 (.tmp 42) 2) rfl 43 rfl (v := (.pointer (some ⟨p, 2, none⟩))) (by kernel_rfl) (by kernel_rfl) (by kernel_rfl) (fun _ _ _ h => h) (by rfl) (fun o' ho W hW => by clear hW; go_simp) RE ?_
            simp only [Act.put, List.setIfInBounds_toArray, List.set_cons_zero, List.set_cons_succ]
            refine onlyH (i := 15) (by kernel_rfl) ?_
            refine op_skip rfl rfl (.store 25 (.tmp 43) (.tmp 41)) rfl rfl (ze.setCell ⟨p, 2, none⟩ (.slice a5 (nk + 2) c5)) (fun o' ho => by go_simp) ?_
            have Z7 := hide Z6
            refine ⟨blk_range Z7.out.ns.dx, ?_⟩
            clear Z6 pc pf pd RE ho5 hg5 hn5
            generalize ze.setCell ⟨p, 2, none⟩ (.slice a5 (nk + 2) c5) = zf at Z7 ⊢
            refine wpAnyH_done (by kernel_rfl) (NoPanic.normal ?_) _
            go_wp2_with fail
            go_meet
            exact ⟨_, _, _, _, Z7⟩
          · refine op_appE elt44 rfl rfl (.tmp 35) (.tmp 38) rfl 39 rfl w.heap.size (.slice al k cl) k (Mk.map byt) rfl Zb.o1 ⟨dq, 0, none⟩ 2 2 (C.map byt ++ C.map byt) rfl HCC.out nx HC1.out (by omega) Zb.bc.be.size ?_
            intro l2 zc ho2 hg2 hn2 hold2
            obtain ⟨a2, c2, rfl⟩ := ownsRow_slice ho2
            have ho2' := ho2
            rw [← List.map_append, ← List.map_append] at ho2'
            have Zc := Zb.app ho2' hg2 hn2 hold2
            clear ho2 ho2' hg2 hn2 hold2 nx
            refine ⟨blk_range Zc.ns.dx, ?_⟩
            simp only [Act.put, List.setIfInBounds_toArray, List.set_cons_zero, List.set_cons_succ]
            refine eitherH (i := 4) (j := 11) (by kernel_rfl) ?_ ?_
            · have pc : zc.cell? ⟨p, 2, none⟩ = some (.slice aK nk cK) := Zc.ns.bc.bk.cell 2
              refine opG_run rfl (by rfl) (.load 25 (.tmp 32)) rfl 33 rfl (.slice aK nk cK) zc (fun o' ho => by go_simp) ?_
              refine ⟨blk_range Zc.ns.dx, ?_⟩
              clear pc
              simp only [Act.put, List.setIfInBounds_toArray, List.set_cons_zero, List.set_cons_succ]
              refine onlyH (i := 11) (by kernel_rfl) ?_
              refine opG_run rfl (by rfl) (.buildSlice 25 2 #[(0, .tmp 34), (1, .tmp 39)]) rfl 40 rfl (.slice (some ⟨zc.heap.size, 0, none⟩) 2 2) (zc.alloc (.cells #[(.slice al k cl), .slice a2 (k + 2) c2] 44)) (fun o' ho => by go_simp) ?_
              have Zd := Zc.below (below_new zc (.cells #[(.slice al k cl), .slice a2 (k + 2) c2] 44))
              have ny : ∀ j u, [(.slice al k cl), .slice a2 (k + 2) c2][j]? = some u → (zc.alloc (.cells #[(.slice al k cl), .slice a2 (k + 2) c2] 44)).cell? ((⟨zc.heap.size, 0, none⟩ : Addr).add j) = some u := fun j u hj => by rw [add_plain]; exact ((Blk.new zc [(.slice al k cl), .slice a2 (k + 2) c2] 44).cell j).trans hj
              generalize zc.alloc (.cells #[(.slice al k cl), .slice a2 (k + 2) c2] 44) = zd at Zd ny ⊢
              generalize zc.heap.size = dy at ny ⊢
              refine ⟨blk_range Zd.ns.dx, ?_⟩
              simp only [Act.put, List.setIfInBounds_toArray, List.set_cons_zero, List.set_cons_succ]
              refine onlyH (i := 12) (by kernel_rfl) ?_
              refine op_appE elt25 rfl rfl (.tmp 33) (.tmp 40) rfl 41 rfl w.heap.size (.slice aK nk cK) nk ks rfl (by have := Zd.ns.bc.ok; rw [HNK.h] at this; exact this) ⟨dy, 0, none⟩ 2 2 [(.slice al k cl), .slice a2 (k + 2) c2] rfl rfl ny (by simp [Value.oneCell']) (by omega) Zd.ns.bc.be.size ?_
              intro L1 ze ho5 hg5 hn5 _
              obtain ⟨a5, c5, rfl⟩ := ownsRow_slice ho5
              obtain ⟨Z6, pc, pf, pd⟩ := Zd.putK (by rw [HNK.h]; exact ho5) hg5 hn5 (fun i s => s.imp id .inl)
              have RE := blk_range pd
              refine ⟨RE, ?_⟩
              simp only [Act.put, List.setIfInBounds_toArray, List.set_cons_zero, List.set_cons_succ]
              refine takeH (i := 13) rfl (.nilCheck (.tmp 29)) rfl 42 rfl (v := (.pointer (some ⟨p, 0, none⟩))) (by kernel_rfl) (by kernel_rfl) (by kernel_rfl) (fun _ _ _ h => h) (by rfl) (fun o' ho W hW => by clear hW; go_simp) RE ?_
              simp only [Act.put, List.setIfInBounds_toArray, List.set_cons_zero, List.set_cons_succ]
              refine takeH (i := 14) rfl (.fieldAddr 27 (.tmp 42) 2) rfl 43 rfl (v := (.pointer (some ⟨p, 2, none⟩))) (by kernel_rfl) (by kernel_rfl) (by kernel_rfl) (fun _ _ _ h => h) (by rfl) (fun o' ho W hW => by clear hW; go_simp) RE ?_
              simp only [Act.put, List.setIfInBounds_toArray, List.set_cons_zero, List.set_cons_succ]
              refine onlyH (i := 15) (by kernel_rfl) ?_
              refine op_skip rfl rfl (.store 25 (.tmp 43) (.tmp 41)) rfl rfl (ze.setCell ⟨p, 2, none⟩ (.slice a5 (nk + 2) c5)) (fun o' ho => by go_simp) ?_
              have Z7 := hide Z6
              refine ⟨blk_range Z7.out.ns.dx, ?_⟩
              clear Z6 pc pf pd RE ho5 hg5 hn5
              generalize ze.setCell ⟨p, 2, none⟩ (.slice a5 (nk + 2) c5) = zf at Z7 ⊢
              refine wpAnyH_done (by kernel_rfl) (NoPanic.normal ?_) _
              go_wp2_with fail
              go_meet
              exact ⟨_, _, _, _, Z7⟩
            · refine opG_run rfl (by rfl) (.buildSlice 25 2 #[(0, .tmp 34), (1, .tmp 39)]) rfl 40 rfl (.slice (some ⟨zc.heap.size, 0, none⟩) 2 2) (zc.alloc (.cells #[(.slice al k cl), .slice a2 (k + 2) c2] 44)) (fun o' ho => by go_simp) ?_
              have Zd := Zc.below (below_new zc (.cells #[(.slice al k cl), .slice a2 (k + 2) c2] 44))
              have ny : ∀ j u, [(.slice al k cl), .slice a2 (k + 2) c2][j]? = some u → (zc.alloc (.cells #[(.slice al k cl), .slice a2 (k + 2) c2] 44)).cell? ((⟨zc.heap.size, 0, none⟩ : Addr).add j) = some u := fun j u hj => by rw [add_plain]; exact ((Blk.new zc [(.slice al k cl), .slice a2 (k + 2) c2] 44).cell j).trans hj
              generalize zc.alloc (.cells #[(.slice al k cl), .slice a2 (k + 2) c2] 44) = zd at Zd ny ⊢
              generalize zc.heap.size = dy at ny ⊢
              refine ⟨blk_range Zd.ns.dx, ?_⟩
              simp only [Act.put, List.setIfInBounds_toArray, List.set_cons_zero, List.set_cons_succ]
              refine onlyH (i := 4) (by kernel_rfl) ?_
              have pc : zd.cell? ⟨p, 2, none⟩ = some (.slice aK nk cK) := Zd.ns.bc.bk.cell 2
              refine opG_run rfl (by rfl) (.load 25 (.tmp 32)) rfl 33 rfl (.slice aK nk cK) zd (fun o' ho => by go_simp) ?_
              refine ⟨blk_range Zd.ns.dx, ?_⟩
              clear pc
              simp only [Act.put, List.setIfInBounds_toArray, List.set_cons_zero, List.set_cons_succ]
              refine onlyH (i := 12) (by kernel_rfl) ?_
              refine op_appE elt25 rfl rfl (.tmp 33) (.tmp 40) rfl 41 rfl w.heap.size (.slice aK nk cK) nk ks rfl (by have := Zd.ns.bc.ok; rw [HNK.h] at this; exact this) ⟨dy, 0, none⟩ 2 2 [(.slice al k cl), .slice a2 (k + 2) c2] rfl rfl ny (by simp [Value.oneCell']) (by omega) Zd.ns.bc.be.size ?_
              intro L1 ze ho5 hg5 hn5 _
              obtain ⟨a5, c5, rfl⟩ := ownsRow_slice ho5
              obtain ⟨Z6, pc, pf, pd⟩ := Zd.putK (by rw [HNK.h]; exact ho5) hg5 hn5 (fun i s => s.imp id .inl)
              have RE := blk_range pd
              refine ⟨RE, ?_⟩
              simp only [Act.put, List.setIfInBounds_toArray, List.set_cons_zero, List.set_cons_succ]
              refine takeH (i := 13) rfl (.nilCheck (.tmp 29)) rfl 42 rfl (v := (.pointer (some ⟨p, 0, none⟩))) (by kernel_rfl) (by kernel_rfl) (by kernel_rfl) (fun _ _ _ h => h) (by rfl) (fun o' ho W hW => by clear hW; go_simp) RE ?_
              simp only [Act.put, List.setIfInBounds_toArray, List.set_cons_zero, List.set_cons_succ]
              refine takeH (i := 14) rfl (.fieldAddr 27 (.tmp 42) 2) rfl 43 rfl (v := (.pointer (some ⟨p, 2, none⟩))) (by kernel_rfl) (by kernel_rfl) (by kernel_rfl) (fun _ _ _ h => h) (by rfl) (fun o' ho W hW => by clear hW; go_simp) RE ?_
              simp only [Act.put, List.setIfInBounds_toArray, List.set_cons_zero, List.set_cons_succ]
              refine onlyH (i := 15) (by kernel_rfl) ?_
              refine op_skip rfl rfl (.store 25 (.tmp 43) (.tmp 41)) rfl rfl (ze.setCell ⟨p, 2, none⟩ (.slice a5 (nk + 2) c5)) (fun o' ho => by go_simp) ?_
              have Z7 := hide Z6
              refine ⟨blk_range Z7.out.ns.dx, ?_⟩
              clear Z6 pc pf pd RE ho5 hg5 hn5
              generalize ze.setCell ⟨p, 2, none⟩ (.slice a5 (nk + 2) c5) = zf at Z7 ⊢
              refine wpAnyH_done (by kernel_rfl) (NoPanic.normal ?_) _
              go_wp2_with fail
              go_meet
              exact ⟨_, _, _, _, Z7⟩
      case rest =>
        obtain ⟨aA, cA, aB, cB, A1⟩ := hcut
        go_upto_region 8 with fail
        refine wp_region_noPanic ?_
        refine wp_region_held (S := fun W => W.rangeAt d 0 (C.map byt)) (by kernel_rfl) ?_
        have Z0 : Jm x (fun k => k = p ∨ (Value.slice aK nk cK).ownBlock = some k ∨ (Value.slice aM ms.length cM).ownBlock = some k) w { wc with drawn := wc.drawn + 1 } p L V (.slice aA (nk + 2) cA) (.slice aM ms.length cM) ls vs (ks ++ [.slice al k cl, .slice aB (k + 2) cB]) ms ks ms (.slice al k cl) (.slice aB (k + 2) cB) (.slice at_ k ct) k Mk d C (Mk ++ (C ++ C)) := A1.out.below (Below.refl _ _).drew
        generalize { wc with drawn := wc.drawn + 1 } = z0 at Z0 ⊢
        have R0 : z0.rangeAt d 0 (C.map byt) := blk_range Z0.ns.dx
        refine takeH (i := 0) rfl (.move (.tmp 0)) rfl 44 rfl (v := (.pointer (some ⟨p, 0, none⟩))) (by kernel_rfl) (by kernel_rfl) (by kernel_rfl) (fun _ _ _ h => h) (by rfl) (fun o' ho W hW => by clear hW; go_simp) R0 ?_
        simp only [Act.put, List.setIfInBounds_toArray, List.set_cons_zero, List.set_cons_succ]
        refine takeH (i := 1) rfl (.move (.tmp 0)) rfl 45 rfl (v := (.pointer (some ⟨p, 0, none⟩))) (by kernel_rfl) (by kernel_rfl) (by kernel_rfl) (fun _ _ _ h => h) (by rfl) (fun o' ho W hW => by clear hW; go_simp) R0 ?_
        simp only [Act.put, List.setIfInBounds_toArray, List.set_cons_zero, List.set_cons_succ]
        refine takeH (i := 2) rfl (.nilCheck (.tmp 45)) rfl 46 rfl (v := (.pointer (some ⟨p, 0, none⟩))) (by kernel_rfl) (by kernel_rfl) (by kernel_rfl) (fun _ _ _ h => h) (by rfl) (fun o' ho W hW => by clear hW; go_simp) R0 ?_
        simp only [Act.put, List.setIfInBounds_toArray, List.set_cons_zero, List.set_cons_succ]
        refine takeH (i := 3) rfl (.fieldAddr 27 (.tmp 46) 3) rfl 47 rfl (v := (.pointer (some ⟨p, 3, none⟩))) (by kernel_rfl) (by kernel_rfl) (by kernel_rfl) (fun _ _ _ h => h) (by rfl) (fun o' ho W hW => by clear hW; go_simp) R0 ?_
        simp only [Act.put, List.setIfInBounds_toArray, List.set_cons_zero, List.set_cons_succ]
        refine takeH (i := 5) rfl (.move (.tmp 5)) rfl 49 rfl (v := (.slice at_ k ct)) (by kernel_rfl) (by kernel_rfl) (by kernel_rfl) (fun _ _ _ h => h) (by rfl) (fun o' ho W hW => by clear hW; go_simp) R0 ?_
        simp only [Act.put, List.setIfInBounds_toArray, List.set_cons_zero, List.set_cons_succ]
        refine takeH (i := 6) rfl (.move (.tmp 5)) rfl 50 rfl (v := (.slice at_ k ct)) (by kernel_rfl) (by kernel_rfl) (by kernel_rfl) (fun _ _ _ h => h) (by rfl) (fun o' ho W hW => by clear hW; go_simp) R0 ?_
        simp only [Act.put, List.setIfInBounds_toArray, List.set_cons_zero, List.set_cons_succ]
        refine takeH_load (i := 7) rfl 51 rfl 45 (.tmp 4) rfl (by kernel_rfl) (by kernel_rfl) (by kernel_rfl) (fun _ _ _ h => h) (by rfl) d 0 rfl (C.map byt) rfl (fun W hW => hW) Tryd.underlying45 rfl hsCl R0 ?_
        simp only [Act.put, List.setIfInBounds_toArray, List.set_cons_zero, List.set_cons_succ]
        refine takeH_load (i := 8) rfl 52 rfl 45 (.tmp 4) rfl (by kernel_rfl) (by kernel_rfl) (by kernel_rfl) (fun _ _ _ h => h) (by rfl) d 0 rfl (C.map byt) rfl (fun W hW => hW) Tryd.underlying45 rfl hsCl R0 ?_
        simp only [Act.put, List.setIfInBounds_toArray, List.set_cons_zero, List.set_cons_succ]
        refine eitherH (i := 4) (j := 9) (by kernel_rfl) ?_ ?_
        · have pc : z0.cell? ⟨p, 3, none⟩ = some (.slice aM ms.length cM) := Z0.ns.bc.bk.cell 3
          refine opG_run rfl (by rfl) (.load 25 (.tmp 47)) rfl 48 rfl (.slice aM ms.length cM) z0 (fun o' ho => by go_simp) ?_
          refine ⟨blk_range Z0.ns.dx, ?_⟩
          clear pc
          simp only [Act.put, List.setIfInBounds_toArray, List.set_cons_zero, List.set_cons_succ]
          refine onlyH (i := 9) (by kernel_rfl) ?_
          refine opG_run rfl (by rfl) (.buildSlice 44 2 #[(0, .tmp 51), (1, .tmp 52)]) rfl 53 rfl (.slice (some ⟨z0.heap.size, 0, none⟩) 2 2) (z0.alloc (.cells (C.map byt ++ C.map byt).toArray 45)) (fun o' ho => run_bsv z0 ho rfl rfl HCL.h) ?_
          have Zb := Z0.below (below_new z0 (.cells (C.map byt ++ C.map byt).toArray 45))
          have nx : ∀ j u, (C.map byt ++ C.map byt)[j]? = some u → (z0.alloc (.cells (C.map byt ++ C.map byt).toArray 45)).cell? ((⟨z0.heap.size, 0, none⟩ : Addr).add j) = some u := fun j u hj => by rw [add_plain]; exact ((Blk.new z0 (C.map byt ++ C.map byt) 45).cell j).trans hj
          generalize z0.alloc (.cells (C.map byt ++ C.map byt).toArray 45) = zb at Zb nx ⊢
          generalize z0.heap.size = dq at nx ⊢
          refine ⟨blk_range Zb.ns.dx, ?_⟩
          simp only [Act.put, List.setIfInBounds_toArray, List.set_cons_zero, List.set_cons_succ]
          refine onlyH (i := 10) (by kernel_rfl) ?_
          refine op_appE elt44 rfl rfl (.tmp 50) (.tmp 53) rfl 54 rfl w.heap.size (.slice at_ k ct) k (Mk.map byt) rfl Zb.ns.ow ⟨dq, 0, none⟩ 2 2 (C.map byt ++ C.map byt) rfl HCC.out nx HC1.out (by omega) Zb.ns.bc.be.size ?_
          intro l2 zc ho2 hg2 hn2 hold2
          obtain ⟨a2, c2, rfl⟩ := ownsRow_slice ho2
          have ho2' := ho2
          rw [← List.map_append, ← List.map_append] at ho2'
          have Zc := Zb.app ho2' hg2 hold2
          clear ho2 ho2' hg2 hn2 hold2 nx
          refine ⟨blk_range Zc.dx, ?_⟩
          simp only [Act.put, List.setIfInBounds_toArray, List.set_cons_zero, List.set_cons_succ]
          refine onlyH (i := 11) (by kernel_rfl) ?_
          refine opG_run rfl (by rfl) (.buildSlice 25 2 #[(0, .tmp 49), (1, .tmp 54)]) rfl 55 rfl (.slice (some ⟨zc.heap.size, 0, none⟩) 2 2) (zc.alloc (.cells #[(.slice at_ k ct), .slice a2 (k + 2) c2] 44)) (fun o' ho => by go_simp) ?_
          have Zd := Zc.below (below_new zc (.cells #[(.slice at_ k ct), .slice a2 (k + 2) c2] 44))
          have ny : ∀ j u, [(.slice at_ k ct), .slice a2 (k + 2) c2][j]? = some u → (zc.alloc (.cells #[(.slice at_ k ct), .slice a2 (k + 2) c2] 44)).cell? ((⟨zc.heap.size, 0, none⟩ : Addr).add j) = some u := fun j u hj => by rw [add_plain]; exact ((Blk.new zc [(.slice at_ k ct), .slice a2 (k + 2) c2] 44).cell j).trans hj
          generalize zc.alloc (.cells #[(.slice at_ k ct), .slice a2 (k + 2) c2] 44) = zd at Zd ny ⊢
          generalize zc.heap.size = dy at ny ⊢
          refine ⟨blk_range Zd.dx, ?_⟩
          simp only [Act.put, List.setIfInBounds_toArray, List.set_cons_zero, List.set_cons_succ]
          refine onlyH (i := 12) (by kernel_rfl) ?_
          refine op_appE elt25 rfl rfl (.tmp 48) (.tmp 55) rfl 56 rfl w.heap.size (.slice aM ms.length cM) ms.length ms rfl Zd.bc.om ⟨dy, 0, none⟩ 2 2 [(.slice at_ k ct), .slice a2 (k + 2) c2] rfl rfl ny (by simp [Value.oneCell']) (by rw [HMK.h]; omega) Zd.bc.be.size ?_
          intro L1 ze ho5 hg5 hn5 _
          obtain ⟨a5, c5, rfl⟩ := ownsRow_slice ho5
          obtain ⟨Z6, pc, pf, pd⟩ := Zd.putM ho5 hg5 hn5 (fun i s => s.imp id .inr)
          have RE := blk_range pd
          refine ⟨RE, ?_⟩
          simp only [Act.put, List.setIfInBounds_toArray, List.set_cons_zero, List.set_cons_succ]
          refine takeH (i := 13) rfl (.nilCheck (.tmp 44)) rfl 57 rfl (v := (.pointer (some ⟨p, 0, none⟩))) (by kernel_rfl) (by kernel_rfl) (by kernel_rfl) (fun _ _ _ h => h) (by rfl) (fun o' ho W hW => by clear hW; go_simp) RE ?_
          simp only [Act.put, List.setIfInBounds_toArray, List.set_cons_zero, List.set_cons_succ]
          refine takeH (i := 14) rfl (.fieldAddr 27 (.tmp 57) 3) rfl 58 rfl (v := (.pointer (some ⟨p, 3, none⟩))) (by kernel_rfl) (by kernel_rfl) (by kernel_rfl) (fun _ _ _ h => h) (by rfl) (fun o' ho W hW => by clear hW; go_simp) RE ?_
          simp only [Act.put, List.setIfInBounds_toArray, List.set_cons_zero, List.set_cons_succ]
          refine onlyH (i := 15) (by kernel_rfl) ?_
          refine op_skip rfl rfl (.store 25 (.tmp 58) (.tmp 56)) rfl rfl (ze.setCell ⟨p, 3, none⟩ (.slice a5 (ms.length + 2) c5)) (fun o' ho => by go_simp) ?_
          have Z7 := hide Z6
          refine ⟨blk_range Z7.out.2.2.2.1, ?_⟩
          clear Z6 pc pf pd RE ho5 hg5 hn5
          generalize ze.setCell ⟨p, 3, none⟩ (.slice a5 (ms.length + 2) c5) = zf at Z7 ⊢
          refine wpAnyH_done (by kernel_rfl) (NoPanic.normal ?_) _
          go_wp2_with fail
          go_end0
          exact ⟨rfl, _, _, _, _, Z7.out.1, Z7.out.2.1, Z7.out.2.2.1, by rw [List.length_append, HNK.h]; rfl, Z7.out.2.2.2.2⟩
        · refine opG_run rfl (by rfl) (.buildSlice 44 2 #[(0, .tmp 51), (1, .tmp 52)]) rfl 53 rfl (.slice (some ⟨z0.heap.size, 0, none⟩) 2 2) (z0.alloc (.cells (C.map byt ++ C.map byt).toArray 45)) (fun o' ho => run_bsv z0 ho rfl rfl HCL.h) ?_
          have Zb := Z0.below (below_new z0 (.cells (C.map byt ++ C.map byt).toArray 45))
          have nx : ∀ j u, (C.map byt ++ C.map byt)[j]? = some u → (z0.alloc (.cells (C.map byt ++ C.map byt).toArray 45)).cell? ((⟨z0.heap.size, 0, none⟩ : Addr).add j) = some u := fun j u hj => by rw [add_plain]; exact ((Blk.new z0 (C.map byt ++ C.map byt) 45).cell j).trans hj
          generalize z0.alloc (.cells (C.map byt ++ C.map byt).toArray 45) = zb at Zb nx ⊢
          generalize z0.heap.size = dq at nx ⊢
          refine ⟨blk_range Zb.ns.dx, ?_⟩
          simp only [Act.put, List.setIfInBounds_toArray, List.set_cons_zero, List.set_cons_succ]
          refine eitherH (i := 4) (j := 10) (by kernel_rfl) ?_ ?_
          · have pc : zb.cell? ⟨p, 3, none⟩ = some (.slice aM ms.length cM) := Zb.ns.bc.bk.cell 3
            refine opG_run rfl (by rfl) (.load 25 (.tmp 47)) rfl 48 rfl (.slice aM ms.length cM) zb (fun o' ho => by go_simp) ?_
            refine ⟨blk_range Zb.ns.dx, ?_⟩
            clear pc
            simp only [Act.put, List.setIfInBounds_toArray, List.set_cons_zero, List.set_cons_succ]
            refine onlyH (i := 10) (by kernel_rfl) ?_
            refine op_appE elt44 rfl rfl (.tmp 50) (.tmp 53) rfl 54 rfl w.heap.size (.slice at_ k ct) k (Mk.map byt) rfl Zb.ns.ow ⟨dq, 0, none⟩ 2 2 (C.map byt ++ C.map byt) rfl HCC.out nx HC1.out (by omega) Zb.ns.bc.be.size ?_
            intro l2 zc ho2 hg2 hn2 hold2
            obtain ⟨a2, c2, rfl⟩ := ownsRow_slice ho2
            have ho2' := ho2
            rw [← List.map_append, ← List.map_append] at ho2'
            have Zc := Zb.app ho2' hg2 hold2
            clear ho2 ho2' hg2 hn2 hold2 nx
            refine ⟨blk_range Zc.dx, ?_⟩
            simp only [Act.put, List.setIfInBounds_toArray, List.set_cons_zero, List.set_cons_succ]
            refine onlyH (i := 11) (by kernel_rfl) ?_
            refine opG_run rfl (by rfl) (.buildSlice 25 2 #[(0, .tmp 49), (1, .tmp 54)]) rfl 55 rfl (.slice (some ⟨zc.heap.size, 0, none⟩) 2 2) (zc.alloc (.cells #[(.slice at_ k ct), .slice a2 (k + 2) c2] 44)) (fun o' ho => by go_simp) ?_
            have Zd := Zc.below (below_new zc (.cells #[(.slice at_ k ct), .slice a2 (k + 2) c2] 44))
            have ny : ∀ j u, [(.slice at_ k ct), .slice a2 (k + 2) c2][j]? = some u → (zc.alloc (.cells #[(.slice at_ k ct), .slice a2 (k + 2) c2] 44)).cell? ((⟨zc.heap.size, 0, none⟩ : Addr).add j) = some u := fun j u hj => by rw [add_plain]; exact ((Blk.new zc [(.slice at_ k ct), .slice a2 (k + 2) c2] 44).cell j).trans hj
            generalize zc.alloc (.cells #[(.slice at_ k ct), .slice a2 (k + 2) c2] 44) = zd at Zd ny ⊢
            generalize zc.heap.size = dy at ny ⊢
            refine ⟨blk_range Zd.dx, ?_⟩
            simp only [Act.put, List.setIfInBounds_toArray, List.set_cons_zero, List.set_cons_succ]
            refine onlyH (i := 12) (by kernel_rfl) ?_
            refine op_appE elt25 rfl rfl (.tmp 48) (.tmp 55) rfl 56 rfl w.heap.size (.slice aM ms.length cM) ms.length ms rfl Zd.bc.om ⟨dy, 0, none⟩ 2 2 [(.slice at_ k ct), .slice a2 (k + 2) c2] rfl rfl ny (by simp [Value.oneCell']) (by rw [HMK.h]; omega) Zd.bc.be.size ?_
            intro L1 ze ho5 hg5 hn5 _
            obtain ⟨a5, c5, rfl⟩ := ownsRow_slice ho5
            obtain ⟨Z6, pc, pf, pd⟩ := Zd.putM ho5 hg5 hn5 (fun i s => s.imp id .inr)
            have RE := blk_range pd
            refine ⟨RE, ?_⟩
            simp only [Act.put, List.setIfInBounds_toArray, List.set_cons_zero, List.set_cons_succ]
            refine takeH (i := 13) rfl (.nilCheck (.tmp 44)) rfl 57 rfl (v := (.pointer (some ⟨p, 0, none⟩))) (by kernel_rfl) (by kernel_rfl) (by kernel_rfl) (fun _ _ _ h => h) (by rfl) (fun o' ho W hW => by clear hW; go_simp) RE ?_
            simp only [Act.put, List.setIfInBounds_toArray, List.set_cons_zero, List.set_cons_succ]
            refine takeH (i := 14) rfl (.fieldAddr 27 (.tmp 57) 3) rfl 58 rfl (v := (.pointer (some ⟨p, 3, none⟩))) (by kernel_rfl) (by kernel_rfl) (by kernel_rfl) (fun _ _ _ h => h) (by rfl) (fun o' ho W hW => by clear hW; go_simp) RE ?_
            simp only [Act.put, List.setIfInBounds_toArray, List.set_cons_zero, List.set_cons_succ]
            refine onlyH (i := 15) (by kernel_rfl) ?_
            refine op_skip rfl rfl (.store 25 (.tmp 58) (.tmp 56)) rfl rfl (ze.setCell ⟨p, 3, none⟩ (.slice a5 (ms.length + 2) c5)) (fun o' ho => by go_simp) ?_
            have Z7 := hide Z6
            refine ⟨blk_range Z7.out.2.2.2.1, ?_⟩
            clear Z6 pc pf pd RE ho5 hg5 hn5
            generalize ze.setCell ⟨p, 3, none⟩ (.slice a5 (ms.length + 2) c5) = zf at Z7 ⊢
            refine wpAnyH_done (by kernel_rfl) (NoPanic.normal ?_) _
            go_wp2_with fail
            go_end0
            exact ⟨rfl, _, _, _, _, Z7.out.1, Z7.out.2.1, Z7.out.2.2.1, by rw [List.length_append, HNK.h]; rfl, Z7.out.2.2.2.2⟩
          · refine op_appE elt44 rfl rfl (.tmp 50) (.tmp 53) rfl 54 rfl w.heap.size (.slice at_ k ct) k (Mk.map byt) rfl Zb.ns.ow ⟨dq, 0, none⟩ 2 2 (C.map byt ++ C.map byt) rfl HCC.out nx HC1.out (by omega) Zb.ns.bc.be.size ?_
            intro l2 zc ho2 hg2 hn2 hold2
            obtain ⟨a2, c2, rfl⟩ := ownsRow_slice ho2
            have ho2' := ho2
            rw [← List.map_append, ← List.map_append] at ho2'
            have Zc := Zb.app ho2' hg2 hold2
            clear ho2 ho2' hg2 hn2 hold2 nx
            refine ⟨blk_range Zc.dx, ?_⟩
            simp only [Act.put, List.setIfInBounds_toArray, List.set_cons_zero, List.set_cons_succ]
            refine eitherH (i := 4) (j := 11) (by kernel_rfl) ?_ ?_
            · have pc : zc.cell? ⟨p, 3, none⟩ = some (.slice aM ms.length cM) := Zc.bc.bk.cell 3
              refine opG_run rfl (by rfl) (.load 25 (.tmp 47)) rfl 48 rfl (.slice aM ms.length cM) zc (fun o' ho => by go_simp) ?_
              refine ⟨blk_range Zc.dx, ?_⟩
              clear pc
              simp only [Act.put, List.setIfInBounds_toArray, List.set_cons_zero, List.set_cons_succ]
              refine onlyH (i := 11) (by kernel_rfl) ?_
              refine opG_run rfl (by rfl) (.buildSlice 25 2 #[(0, .tmp 49), (1, .tmp 54)]) rfl 55 rfl (.slice (some ⟨zc.heap.size, 0, none⟩) 2 2) (zc.alloc (.cells #[(.slice at_ k ct), .slice a2 (k + 2) c2] 44)) (fun o' ho => by go_simp) ?_
              have Zd := Zc.below (below_new zc (.cells #[(.slice at_ k ct), .slice a2 (k + 2) c2] 44))
              have ny : ∀ j u, [(.slice at_ k ct), .slice a2 (k + 2) c2][j]? = some u → (zc.alloc (.cells #[(.slice at_ k ct), .slice a2 (k + 2) c2] 44)).cell? ((⟨zc.heap.size, 0, none⟩ : Addr).add j) = some u := fun j u hj => by rw [add_plain]; exact ((Blk.new zc [(.slice at_ k ct), .slice a2 (k + 2) c2] 44).cell j).trans hj
              generalize zc.alloc (.cells #[(.slice at_ k ct), .slice a2 (k + 2) c2] 44) = zd at Zd ny ⊢
              generalize zc.heap.size = dy at ny ⊢
              refine ⟨blk_range Zd.dx, ?_⟩
              simp only [Act.put, List.setIfInBounds_toArray, List.set_cons_zero, List.set_cons_succ]
              refine onlyH (i := 12) (by kernel_rfl) ?_
              refine op_appE elt25 rfl rfl (.tmp 48) (.tmp 55) rfl 56 rfl w.heap.size (.slice aM ms.length cM) ms.length ms rfl Zd.bc.om ⟨dy, 0, none⟩ 2 2 [(.slice at_ k ct), .slice a2 (k + 2) c2] rfl rfl ny (by simp [Value.oneCell']) (by rw [HMK.h]; omega) Zd.bc.be.size ?_
              intro L1 ze ho5 hg5 hn5 _
              obtain ⟨a5, c5, rfl⟩ := ownsRow_slice ho5
              obtain ⟨Z6, pc, pf, pd⟩ := Zd.putM ho5 hg5 hn5 (fun i s => s.imp id .inr)
              have RE := blk_range pd
              refine ⟨RE, ?_⟩
              simp only [Act.put, List.setIfInBounds_toArray, List.set_cons_zero, List.set_cons_succ]
              refine takeH (i := 13) rfl (.nilCheck (.tmp 44)) rfl 57 rfl (v := (.pointer (some ⟨p, 0, none⟩))) (by kernel_rfl) (by kernel_rfl) (by kernel_rfl) (fun _ _ _ h => h) (by rfl) (fun o' ho W hW => by clear hW; go_simp) RE ?_
              simp only [Act.put, List.setIfInBounds_toArray, List.set_cons_zero, List.set_cons_succ]
              refine takeH (i := 14) rfl (.fieldAddr 27 (.tmp 57) 3) rfl 58 rfl (v := (.pointer (some ⟨p, 3, none⟩))) (by kernel_rfl) (by kernel_rfl) (by kernel_rfl) (fun _ _ _ h => h) (by rfl) (fun o' ho W hW => by clear hW; go_simp) RE ?_
              simp only [Act.put, List.setIfInBounds_toArray, List.set_cons_zero, List.set_cons_succ]
              refine onlyH (i := 15) (by kernel_rfl) ?_
              refine op_skip rfl rfl (.store 25 (.tmp 58) (.tmp 56)) rfl rfl (ze.setCell ⟨p, 3, none⟩ (.slice a5 (ms.length + 2) c5)) (fun o' ho => by go_simp) ?_
              have Z7 := hide Z6
              refine ⟨blk_range Z7.out.2.2.2.1, ?_⟩
              clear Z6 pc pf pd RE ho5 hg5 hn5
              generalize ze.setCell ⟨p, 3, none⟩ (.slice a5 (ms.length + 2) c5) = zf at Z7 ⊢
              refine wpAnyH_done (by kernel_rfl) (NoPanic.normal ?_) _
              go_wp2_with fail
              go_end0
              exact ⟨rfl, _, _, _, _, Z7.out.1, Z7.out.2.1, Z7.out.2.2.1, by rw [List.length_append, HNK.h]; rfl, Z7.out.2.2.2.2⟩
            · refine opG_run rfl (by rfl) (.buildSlice 25 2 #[(0, .tmp 49), (1, .tmp 54)]) rfl 55 rfl (.slice (some ⟨zc.heap.size, 0, none⟩) 2 2) (zc.alloc (.cells #[(.slice at_ k ct), .slice a2 (k + 2) c2] 44)) (fun o' ho => by go_simp) ?_
              have Zd := Zc.below (below_new zc (.cells #[(.slice at_ k ct), .slice a2 (k + 2) c2] 44))
              have ny : ∀ j u, [(.slice at_ k ct), .slice a2 (k + 2) c2][j]? = some u → (zc.alloc (.cells #[(.slice at_ k ct), .slice a2 (k + 2) c2] 44)).cell? ((⟨zc.heap.size, 0, none⟩ : Addr).add j) = some u := fun j u hj => by rw [add_plain]; exact ((Blk.new zc [(.slice at_ k ct), .slice a2 (k + 2) c2] 44).cell j).trans hj
              generalize zc.alloc (.cells #[(.slice at_ k ct), .slice a2 (k + 2) c2] 44) = zd at Zd ny ⊢
              generalize zc.heap.size = dy at ny ⊢
              refine ⟨blk_range Zd.dx, ?_⟩
              simp only [Act.put, List.setIfInBounds_toArray, List.set_cons_zero, List.set_cons_succ]
              refine onlyH (i := 4) (by kernel_rfl) ?_
              have pc : zd.cell? ⟨p, 3, none⟩ = some (.slice aM ms.length cM) := Zd.bc.bk.cell 3
              refine opG_run rfl (by rfl) (.load 25 (.tmp 47)) rfl 48 rfl (.slice aM ms.length cM) zd (fun o' ho => by go_simp) ?_
              refine ⟨blk_range Zd.dx, ?_⟩
              clear pc
              simp only [Act.put, List.setIfInBounds_toArray, List.set_cons_zero, List.set_cons_succ]
              refine onlyH (i := 12) (by kernel_rfl) ?_
              refine op_appE elt25 rfl rfl (.tmp 48) (.tmp 55) rfl 56 rfl w.heap.size (.slice aM ms.length cM) ms.length ms rfl Zd.bc.om ⟨dy, 0, none⟩ 2 2 [(.slice at_ k ct), .slice a2 (k + 2) c2] rfl rfl ny (by simp [Value.oneCell']) (by rw [HMK.h]; omega) Zd.bc.be.size ?_
              intro L1 ze ho5 hg5 hn5 _
              obtain ⟨a5, c5, rfl⟩ := ownsRow_slice ho5
              obtain ⟨Z6, pc, pf, pd⟩ := Zd.putM ho5 hg5 hn5 (fun i s => s.imp id .inr)
              have RE := blk_range pd
              refine ⟨RE, ?_⟩
              simp only [Act.put, List.setIfInBounds_toArray, List.set_cons_zero, List.set_cons_succ]
              refine takeH (i := 13) rfl (.nilCheck (.tmp 44)) rfl 57 rfl (v := (.pointer (some ⟨p, 0, none⟩))) (by kernel_rfl) (by kernel_rfl) (by kernel_rfl) (fun _ _ _ h => h) (by rfl) (fun o' ho W hW => by clear hW; go_simp) RE ?_
              simp only [Act.put, List.setIfInBounds_toArray, List.set_cons_zero, List.set_cons_succ]
              refine takeH (i := 14) rfl (.fieldAddr 27 (.tmp 57) 3) rfl 58 rfl (v := (.pointer (some ⟨p, 3, none⟩))) (by kernel_rfl) (by kernel_rfl) (by kernel_rfl) (fun _ _ _ h => h) (by rfl) (fun o' ho W hW => by clear hW; go_simp) RE ?_
              simp only [Act.put, List.setIfInBounds_toArray, List.set_cons_zero, List.set_cons_succ]
              refine onlyH (i := 15) (by kernel_rfl) ?_
              refine op_skip rfl rfl (.store 25 (.tmp 58) (.tmp 56)) rfl rfl (ze.setCell ⟨p, 3, none⟩ (.slice a5 (ms.length + 2) c5)) (fun o' ho => by go_simp) ?_
              have Z7 := hide Z6
              refine ⟨blk_range Z7.out.2.2.2.1, ?_⟩
              clear Z6 pc pf pd RE ho5 hg5 hn5
              generalize ze.setCell ⟨p, 3, none⟩ (.slice a5 (ms.length + 2) c5) = zf at Z7 ⊢
              refine wpAnyH_done (by kernel_rfl) (NoPanic.normal ?_) _
              go_wp2_with fail
              go_end0
              exact ⟨rfl, _, _, _, _, Z7.out.1, Z7.out.2.1, Z7.out.2.2.1, by rw [List.length_append, HNK.h]; rfl, Z7.out.2.2.2.2⟩
end Go.Proofs.YtablmkijlpoaaabDoor
