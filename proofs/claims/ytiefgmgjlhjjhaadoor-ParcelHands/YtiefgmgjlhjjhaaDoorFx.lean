import Derived.Test.YtiefgmgjlhjjhaaDoorPureG
namespace Go.Proofs.YtiefgmgjlhjjhaaDoor
open Go.RowKit

/-- Blocks of S alone may have turned; blocks may have come. -/
structure Fx (S : Nat → Prop) (w w' : World) : Prop where
  os : w'.os = w.os
  tape : w'.tape = w.tape
  output : w'.output = w.output
  size : w.heap.size ≤ w'.heap.size
  block : ∀ k, k < w.heap.size → ¬ S k → w'.heap[k]? = w.heap[k]?

theorem Fx.of_below {S : Nat → Prop} {a b : World} (h : Below a.heap.size a b) : Fx S a b := ⟨h.os, h.tape, h.output, h.size, fun i hi _ => h.block i hi⟩
theorem Fx.refl (S : Nat → Prop) (w : World) : Fx S w w := Fx.of_below (Below.refl _ _)
theorem Fx.trans {S T : Nat → Prop} {a b c : World} (h : Fx S a b) (k : Fx T b c) (hT : ∀ i, i < a.heap.size → T i → S i) : Fx S a c :=
  ⟨k.os.trans h.os, k.tape.trans h.tape, k.output.trans h.output, Nat.le_trans h.size k.size, fun i hi hs => (k.block i (Nat.lt_of_lt_of_le hi h.size) (fun t => hs (hT i hi t))).trans (h.block i hi hs)⟩
theorem Fx.and {S : Nat → Prop} {a b c : World} (h : Fx S a b) (k : Fx S b c) : Fx S a c := h.trans k (fun _ _ t => t)
theorem Fx.mono {S T : Nat → Prop} {a b : World} (h : Fx S a b) (hT : ∀ i, i < a.heap.size → S i → T i) : Fx T a b :=
  ⟨h.os, h.tape, h.output, h.size, fun i hi hs => h.block i hi (fun s => hs (hT i hi s))⟩
theorem Fx.then_below {S : Nat → Prop} {a b c : World} (h : Fx S a b) (k : Below b.heap.size b c) : Fx S a c := h.trans (Fx.of_below (S := S) k) (fun _ _ s => s)
theorem Fx.setCell {S : Nat → Prop} (w : World) (p o : Nat) (v : Value) (hS : S p) : Fx S w (w.setCell ⟨p, o, none⟩ v) :=
  ⟨rfl, rfl, rfl, by simp [World.setCell], fun k _ hk => Below.heap_setCell _ _ _ _ (fun e => hk (by rw [show k = p from e]; exact hS))⟩
theorem Fx.setCells {S : Nat → Prop} (p : Nat) (hS : S p) : ∀ (vs : List Value) (o : Nat) (w : World), Fx S w (w.setCells p o vs)
  | [], _, w => Fx.refl S w
  | v :: r, o, w => by
    rw [World.setCells]
    exact (Fx.setCell w p o v hS).and (Fx.setCells p hS r (o + 1) _)
/-- All but block p is as it was. -/
abbrev One (p : Nat) : Nat → Prop := fun k => k = p
theorem Fx.below {S : Nat → Prop} {a b : World} (h : Fx S a b) {B : Nat} (hB : ∀ k, k < B → ¬ S k) (hs : B ≤ a.heap.size) : Below B a b :=
  ⟨h.os, h.tape, h.output, h.size, fun k hk => h.block k (by omega) (hB k hk)⟩
theorem Fx.cell {S : Nat → Prop} {a b : World} (h : Fx S a b) {x : Addr} {v : Value} (hc : a.cell? x = some v) (hS : ¬ S x.block) : b.cell? x = some v := by
  rw [← hc]
  exact World.cell?_of_block (h.block _ (cell_lt hc) hS)

theorem add_block (ad : Addr) (i : Nat) : (ad.add i).block = ad.block := by
  unfold Addr.add; split <;> rfl

theorem Has.fx {S : Nat → Prop} {w w' : World} {v : Value} {bs : List UInt8} (h : Has w v bs) (hf : Fx S w w') (hd : ∀ k, v.ownBlock = some k → ¬ S k) : Has w' v bs := by
  rcases h with h | ⟨ad, cap, rfl, h2, h3⟩
  · exact .inl h
  · exact .inr ⟨ad, cap, rfl, h2, fun i u hu => hf.cell (h3 i u hu) (by rw [add_block]; exact hd _ rfl)⟩
theorem Blk.fx {S : Nat → Prop} {w w' : World} {g : Nat} {cs : List Value} {t : TypeId} (h : Blk w g cs t) (hf : Fx S w w') (hg : ¬ S g) : Blk w' g cs t := by
  have hl := h.lt
  unfold Blk at h ⊢
  rw [hf.block g hl hg]; exact h
theorem Kst.fx {S : Nat → Prop} {w w' : World} (h : Kst w) (hf : Fx S w w') (hg : ¬ S 0) : Kst w' := fun t ht => hf.cell (h t ht) hg

theorem splice_one (cs : List Value) (o : Nat) (v : Value) (r : List Value) (h : o + (v :: r).length ≤ cs.length) :
    (cs.set o v).take (o + 1) ++ r ++ (cs.set o v).drop (o + 1 + r.length) = cs.take o ++ (v :: r) ++ cs.drop (o + (v :: r).length) := by
  simp only [List.length_cons] at h ⊢
  have hl : o < cs.length := by omega
  rw [List.take_add_one, List.getElem?_set_self hl, List.drop_set_of_lt (by omega), List.take_set_of_le (Nat.le_refl _)]
  simp [Nat.add_assoc, Nat.add_comm 1]

theorem Blk.setCells {g : Nat} {t : TypeId} : ∀ (vs : List Value) (o : Nat) (w : World) (cs : List Value), Blk w g cs t → o + vs.length ≤ cs.length → Blk (w.setCells g o vs) g (cs.take o ++ vs ++ cs.drop (o + vs.length)) t
  | [], o, w, cs, h, _ => by rw [World.setCells]; simpa using h
  | v :: r, o, w, cs, h, hl => by
    rw [World.setCells, ← splice_one cs o v r hl]
    exact Blk.setCells r (o + 1) _ _ (h.set o v) (by simp at hl ⊢; omega)

/-- The hash at block p was handed the bytes m. -/
def HAt (w : World) (p : Nat) (m : List UInt8) : Prop := Blk w p (hcells m) 136
/-- A hash whose parts are these. -/
structure HR (w : World) (p : Nat) (s : List (BitVec 32)) (r : List UInt8) (n : Int) : Prop where
  bl : Blk w p (hc s r n) 136
  hs : s.length = 8
  hr : r.length = 64

theorem HAt.hr {w : World} {p : Nat} {m : List UInt8} (h : HAt w p m) : HR w p (stt m) (rst m) m.length := ⟨h, stt_length m, rst_length m⟩
theorem HR.size {w : World} {p : Nat} {s : List (BitVec 32)} {r : List UInt8} {n : Int} (h : HR w p s r n) : w.cell? ⟨p, 72, none⟩ = some (.int .i64 n) := by
  rw [h.bl.cell, hc_size s r n h.hs h.hr]
theorem HR.frozen {w : World} {p : Nat} {s : List (BitVec 32)} {r : List UInt8} {n : Int} (h : HR w p s r n) (j : Nat) : w.frozen? ⟨p, j, none⟩ = false := h.bl.frozen j
theorem HR.state {w : World} {p : Nat} {s : List (BitVec 32)} {r : List UInt8} {n : Int} (h : HR w p s r n) : w.rangeAt p 0 (wvs s) := fun j v hv => by
  have hj : j < (wvs s).length := (List.getElem?_eq_some_iff.1 hv).1
  rw [Nat.zero_add, h.bl.cell, hc, List.getElem?_append_left hj, hv]
theorem HR.there {w : World} {p : Nat} {s : List (BitVec 32)} {r : List UInt8} {n : Int} (h : HR w p s r n) (o k : Nat) (hk : o + k ≤ 73) : w.there p o k := fun j hj =>
  ⟨by rw [h.bl.cell, List.getElem?_eq_getElem (by rw [hc_length s r n h.hs h.hr]; omega)]; rfl, h.bl.frozen _⟩
theorem HR.rest {w : World} {p : Nat} {s : List (BitVec 32)} {r : List UInt8} {n : Int} (h : HR w p s r n) : w.rangeAt p 8 (r.map byt) := fun j v hv => by
  rw [h.bl.cell, hc_rest s r n h.hs j v hv]
theorem HR.some {w : World} {p : Nat} {s : List (BitVec 32)} {r : List UInt8} {n : Int} (h : HR w p s r n) (j : Nat) (hj : j < 73) : (w.cell? ⟨p, j, none⟩).isSome = true := by
  rw [h.bl.cell, List.getElem?_eq_getElem (by rw [hc_length s r n h.hs h.hr]; exact hj)]; rfl
theorem HR.putSize {w : World} {p : Nat} {s : List (BitVec 32)} {r : List UInt8} {n : Int} (h : HR w p s r n) (k : Int) : HR (w.setCell ⟨p, 72, none⟩ (.int .i64 k)) p s r k :=
  ⟨by rw [← hc_put_size s r n k h.hs h.hr]; exact h.bl.set 72 _, h.hs, h.hr⟩
theorem HR.putRest {w : World} {p : Nat} {s : List (BitVec 32)} {r : List UInt8} {n : Int} (h : HR w p s r n) (o : Nat) (x : List UInt8) (ho : o + x.length ≤ 64) : HR (w.setCells p (8 + o) (x.map byt)) p s (r.take o ++ x ++ r.drop (o + x.length)) n := by
  have hr := h.hr
  refine ⟨?_, h.hs, by simp; omega⟩
  rw [← hc_put_rest s r x n o h.hs (by omega)]
  exact Blk.setCells _ _ _ _ h.bl (by rw [hc_length s r n h.hs h.hr, List.length_map]; omega)
theorem HR.putState {w : World} {p : Nat} {s : List (BitVec 32)} {r : List UInt8} {n : Int} (h : HR w p s r n) (t : List (BitVec 32)) (ht : t.length = 8) : HR (w.setCells p 0 (wvs t)) p t r n := by
  refine ⟨?_, ht, h.hr⟩
  rw [← hc_put_state s t r n h.hs ht]
  exact Blk.setCells _ _ _ _ h.bl (by rw [hc_length s r n h.hs h.hr, wvs_length]; omega)
end Go.Proofs.YtiefgmgjlhjjhaaDoor
