import Derived.Test.YtiefgmgjlhjjhaaDoorRows
import Derived.WalkKit
import Derived.ProofKit
import Derived.OpenShut
import Derived.ChangeOld
import Derived.Below
import Derived.SizedLaws
import Derived.Lib.LaidTab
import Derived.Deep.Slices
import Derived.Test.YtiefgmgjlhjjhaaDoorComp
namespace Go.Proofs.YtiefgmgjlhjjhaaDoor
open Go.ChangeShapes Go.WideShapes Go.ChangeAt Go.RowKit
namespace Row

theorem own : ownKnob Tryd.prog.godebug = none := by kernel_rfl
theorem laidOut : laidOutB Tryd.prog = true := by kernel_rfl
theorem cells5 : Tryd.prog.cellsOf 5 = 1 := by kernel_rfl
theorem gTabType : (Tryd.prog.globals[0]?).map (·.type) = some 140 := by kernel_rfl
theorem cells59 : Tryd.prog.cellsOf 140 = 64 := by kernel_rfl
theorem cells38 : Tryd.prog.cellsOf 22 = 1 := by kernel_rfl

theorem wf_byte {n : Int} (h : (Lit.int .u8 n).wf = true) : 0 ≤ n ∧ n < 256 := by
  have := (bounds_u8 h); omega

theorem kn_length : Kn.length = 64 := by kernel_rfl
theorem kn_small : Kn.all (· < 4294967296) = true := by kernel_rfl
theorem kw_wn (t : Nat) (ht : t < 64) : wn (kw t) = ((Kn.map (fun n : Nat => (n : Int))).getD t 0) := by
  have hl : t < Kn.length := by rw [kn_length]; exact ht
  have hs : Kn[t] < 4294967296 := by
    have := List.all_eq_true.1 kn_small Kn[t] (List.getElem_mem hl)
    simpa using this
  unfold wn kw
  simp only [List.getD_eq_getElem?_getD, List.getElem?_map, List.getElem?_eq_getElem hl, Option.getD_some, Option.map_some]
  rw [BitVec.toNat_ofNat, Nat.mod_eq_of_lt hs]

/-- The laid table, by its name. -/
theorem consts_of {W : World} (nm : String) (hg : Tryd.prog.globalNamed nm = some 0) (h : laidMetH Tryd.prog [(nm, Rows.laid_lethe_sha_constants)] W) : Kst W := fun t ht => by
  rw [kw_wn t ht]
  have htab : Lib.TabIs Tryd.prog W nm .u32 (Kn.map (fun n : Nat => (n : Int))) := Lib.tabIs_of_head (rest := []) hg gTabType Tryd.underlying140 Tryd.underlying22 cells38 cells59 h
  have hl : t < (Kn.map (fun n : Nat => (n : Int))).length := by rw [List.length_map, kn_length]; exact ht
  have := htab.cell hg t hl
  simpa [List.getD_eq_getElem?_getD, List.getElem?_eq_getElem hl] using this

end Row
end Go.Proofs.YtiefgmgjlhjjhaaDoor
namespace Go.Proofs.YtiefgmgjlhjjhaaDoor
open Go.RowKit

/-- The state ahead of the first block. -/
def iv : List (BitVec 32) := [BitVec.ofNat 32 1779033703, BitVec.ofNat 32 3144134277, BitVec.ofNat 32 1013904242, BitVec.ofNat 32 2773480762, BitVec.ofNat 32 1359893119, BitVec.ofNat 32 2600822924, BitVec.ofNat 32 528734635, BitVec.ofNat 32 1541459225]

def blk (m : List UInt8) (k : Nat) : List UInt8 := (m.drop (64 * k)).take 64
def stN (m : List UInt8) : Nat → List (BitVec 32)
  | 0 => iv
  | k + 1 => comp (stN m k) (blk m k)
/-- The state behind the whole blocks of m. -/
def stt (m : List UInt8) : List (BitVec 32) := stN m (m.length / 64)
def z64b : List UInt8 := List.replicate 64 0
/-- What lies behind the whole blocks, and zeros. -/
def rst (m : List UInt8) : List UInt8 := m.drop (64 * (m.length / 64)) ++ List.replicate (64 - m.length % 64) 0

theorem stN_length (m : List UInt8) : ∀ k, (stN m k).length = 8
  | 0 => rfl
  | k + 1 => by rw [stN, comp_length, stN_length m k]
theorem stt_length (m : List UInt8) : (stt m).length = 8 := stN_length m _
theorem rst_length (m : List UInt8) : (rst m).length = 64 := by
  simp only [rst, List.length_append, List.length_drop, List.length_replicate]; omega
theorem z64b_length : z64b.length = 64 := by rw [z64b, List.length_replicate]

theorem blk_append (m x : List UInt8) (k : Nat) (h : 64 * (k + 1) ≤ m.length) : blk (m ++ x) k = blk m k := by
  unfold blk
  rw [List.drop_append_of_le_length (by omega), List.take_append_of_le_length (by rw [List.length_drop]; omega)]
theorem stN_append (m x : List UInt8) : ∀ k, 64 * k ≤ m.length → stN (m ++ x) k = stN m k
  | 0, _ => rfl
  | k + 1, h => by rw [stN, stN, stN_append m x k (by omega), blk_append m x k h]

theorem rst_take (m : List UInt8) : (rst m).take (m.length % 64) = m.drop (64 * (m.length / 64)) := by
  have e : (m.drop (64 * (m.length / 64))).length = m.length % 64 := by rw [List.length_drop]; omega
  unfold rst
  rw [← e]
  exact List.take_left
theorem rst_drop (m : List UInt8) (j : Nat) : (rst m).drop (m.length % 64 + j) = List.replicate (64 - m.length % 64 - j) 0 := by
  have e : (m.drop (64 * (m.length / 64))).length = m.length % 64 := by rw [List.length_drop]; omega
  unfold rst
  rw [← List.drop_drop, List.drop_append_of_le_length (by rw [e]; exact Nat.le_refl _), show (m.drop (64 * (m.length / 64))).drop (m.length % 64) = [] from List.drop_of_length_le (by rw [e]; exact Nat.le_refl _), List.nil_append, List.drop_replicate]

/-- Fewer bytes than fill the block. -/
theorem step_lt (m x : List UInt8) (h : m.length % 64 + x.length < 64) : stt (m ++ x) = stt m ∧ rst (m ++ x) = (rst m).take (m.length % 64) ++ x ++ (rst m).drop (m.length % 64 + x.length) := by
  have hd : (m ++ x).length / 64 = m.length / 64 := by rw [List.length_append]; omega
  have hm : (m ++ x).length % 64 = m.length % 64 + x.length := by rw [List.length_append]; omega
  refine ⟨?_, ?_⟩
  · unfold stt
    rw [hd, stN_append m x _ (by omega)]
  · rw [rst_take, rst_drop]
    unfold rst
    rw [hd, hm, List.drop_append_of_le_length (by omega), show 64 - m.length % 64 - x.length = 64 - (m.length % 64 + x.length) by omega]

/-- As many as fill it. -/
theorem step_eq (m x : List UInt8) (h : m.length % 64 + x.length = 64) : stt (m ++ x) = comp (stt m) ((rst m).take (m.length % 64) ++ x ++ (rst m).drop (m.length % 64 + x.length)) ∧ rst (m ++ x) = z64b := by
  have hd : (m ++ x).length / 64 = m.length / 64 + 1 := by rw [List.length_append]; omega
  have hm : (m ++ x).length % 64 = 0 := by rw [List.length_append]; omega
  have hl : (m ++ x).length = 64 * (m.length / 64 + 1) := by rw [List.length_append]; omega
  have e0 : (rst m).drop (m.length % 64 + x.length) = [] := by rw [rst_drop, show 64 - m.length % 64 - x.length = 0 by omega]; rfl
  refine ⟨?_, ?_⟩
  · rw [rst_take, e0, List.append_nil]
    unfold stt
    rw [hd, stN, stN_append m x _ (by omega)]
    congr 1
    unfold blk
    rw [List.drop_append_of_le_length (by omega), List.take_of_length_le (by rw [List.length_append, List.length_drop]; omega)]
  · unfold rst
    rw [hd, hm, ← hl, List.drop_length]
    rfl

/-- The cells of a hash: its state, its rest, its size. -/
def hc (s : List (BitVec 32)) (r : List UInt8) (n : Int) : List Value := wvs s ++ (r.map byt ++ [.int .i64 n])
def hcells (m : List UInt8) : List Value := hc (stt m) (rst m) m.length

theorem hc_length (s : List (BitVec 32)) (r : List UInt8) (n : Int) (hs : s.length = 8) (hr : r.length = 64) : (hc s r n).length = 73 := by
  simp [hc, wvs_length, hs, hr]
theorem hc_rest (s : List (BitVec 32)) (r : List UInt8) (n : Int) (hs : s.length = 8) (j : Nat) (v : Value) (hj : (r.map byt)[j]? = some v) : (hc s r n)[8 + j]? = some v := by
  have hl : j < (r.map byt).length := (List.getElem?_eq_some_iff.1 hj).1
  rw [hc, List.getElem?_append_right (by rw [wvs_length]; omega), wvs_length, hs, Nat.add_sub_cancel_left, List.getElem?_append_left hl, hj]
theorem hc_size (s : List (BitVec 32)) (r : List UInt8) (n : Int) (hs : s.length = 8) (hr : r.length = 64) : (hc s r n)[72]? = some (.int .i64 n) := by
  rw [hc, List.getElem?_append_right (by rw [wvs_length]; omega), wvs_length, hs, List.getElem?_append_right (by simp [hr])]
  simp [hr]
theorem hc_put_size (s : List (BitVec 32)) (r : List UInt8) (n k : Int) (hs : s.length = 8) (hr : r.length = 64) : (hc s r n).set 72 (.int .i64 k) = hc s r k := by
  unfold hc
  rw [List.set_append_right _ _ (by rw [wvs_length]; omega), wvs_length, hs, List.set_append_right _ _ (by simp [hr])]
  simp [hr]
/-- Cells of the rest turned. -/
theorem hc_put_rest (s : List (BitVec 32)) (r x : List UInt8) (n : Int) (o : Nat) (hs : s.length = 8) (ho : o + x.length ≤ r.length) :
    (hc s r n).take (8 + o) ++ x.map byt ++ (hc s r n).drop (8 + o + (x.map byt).length) = hc s (r.take o ++ x ++ r.drop (o + x.length)) n := by
  have hw : (wvs s).length = 8 := by rw [wvs_length, hs]
  unfold hc
  rw [← hw, List.take_length_add_append, List.length_map, Nat.add_assoc, List.drop_length_add_append, List.take_append_of_le_length (by simp; omega), List.drop_append_of_le_length (by simp; omega)]
  simp [List.map_take, List.map_drop]
/-- The state turned. -/
theorem hc_put_state (s t : List (BitVec 32)) (r : List UInt8) (n : Int) (hs : s.length = 8) (ht : t.length = 8) :
    (hc s r n).take 0 ++ wvs t ++ (hc s r n).drop (0 + (wvs t).length) = hc t r n := by
  unfold hc
  rw [List.take_zero, List.nil_append, Nat.zero_add, show (wvs t).length = (wvs s).length by rw [wvs_length, wvs_length, hs, ht], List.drop_left]
end Go.Proofs.YtiefgmgjlhjjhaaDoor
namespace Go.Proofs.YtiefgmgjlhjjhaaDoor
open Go.RowKit

/-- Blocks of S alone may have turned; blocks may have come. -/
structure Fx (S : Nat → Prop) (w w' : World) : Prop where
  os : w'.os = w.os
  tape : w'.tape = w.tape
  output : w'.output = w.output
  size : w.heap.size ≤ w'.heap.size
  block : ∀ k, k < w.heap.size → ¬ S k → w'.heap[k]? = w.heap[k]?

theorem Fx.of_below {S : Nat → Prop} {a b : World} (h : Below a.heap.size a b) : Fx S a b := ⟨h.os, h.tape, h.output, h.size, fun i hi _ => h.block i hi⟩
theorem Fx.refl (S : Nat → Prop) (w : World) : Fx S w w := Fx.of_below (Below.refl _ _)
theorem Fx.trans {S T : Nat → Prop} {a b c : World} (h : Fx S a b) (k : Fx T b c) (hT : ∀ i, i < a.heap.size → T i → S i) : Fx S a c :=
  ⟨k.os.trans h.os, k.tape.trans h.tape, k.output.trans h.output, Nat.le_trans h.size k.size, fun i hi hs => (k.block i (Nat.lt_of_lt_of_le hi h.size) (fun t => hs (hT i hi t))).trans (h.block i hi hs)⟩
theorem Fx.and {S : Nat → Prop} {a b c : World} (h : Fx S a b) (k : Fx S b c) : Fx S a c := h.trans k (fun _ _ t => t)
theorem Fx.mono {S T : Nat → Prop} {a b : World} (h : Fx S a b) (hT : ∀ i, i < a.heap.size → S i → T i) : Fx T a b :=
  ⟨h.os, h.tape, h.output, h.size, fun i hi hs => h.block i hi (fun s => hs (hT i hi s))⟩
theorem Fx.then_below {S : Nat → Prop} {a b c : World} (h : Fx S a b) (k : Below b.heap.size b c) : Fx S a c := h.trans (Fx.of_below (S := S) k) (fun _ _ s => s)
theorem Fx.setCell {S : Nat → Prop} (w : World) (p o : Nat) (v : Value) (hS : S p) : Fx S w (w.setCell ⟨p, o, none⟩ v) :=
  ⟨rfl, rfl, rfl, by simp [World.setCell], fun k _ hk => Below.heap_setCell _ _ _ _ (fun e => hk (by rw [show k = p from e]; exact hS))⟩
theorem Fx.setCells {S : Nat → Prop} (p : Nat) (hS : S p) : ∀ (vs : List Value) (o : Nat) (w : World), Fx S w (w.setCells p o vs)
  | [], _, w => Fx.refl S w
  | v :: r, o, w => by
    rw [World.setCells]
    exact (Fx.setCell w p o v hS).and (Fx.setCells p hS r (o + 1) _)
/-- All but block p is as it was. -/
abbrev One (p : Nat) : Nat → Prop := fun k => k = p
theorem Fx.below {S : Nat → Prop} {a b : World} (h : Fx S a b) {B : Nat} (hB : ∀ k, k < B → ¬ S k) (hs : B ≤ a.heap.size) : Below B a b :=
  ⟨h.os, h.tape, h.output, h.size, fun k hk => h.block k (by omega) (hB k hk)⟩
theorem Fx.cell {S : Nat → Prop} {a b : World} (h : Fx S a b) {x : Addr} {v : Value} (hc : a.cell? x = some v) (hS : ¬ S x.block) : b.cell? x = some v := by
  rw [← hc]
  exact World.cell?_of_block (h.block _ (cell_lt hc) hS)

theorem add_block (ad : Addr) (i : Nat) : (ad.add i).block = ad.block := by
  unfold Addr.add; split <;> rfl

theorem Has.fx {S : Nat → Prop} {w w' : World} {v : Value} {bs : List UInt8} (h : Has w v bs) (hf : Fx S w w') (hd : ∀ k, v.ownBlock = some k → ¬ S k) : Has w' v bs := by
  rcases h with h | ⟨ad, cap, rfl, h2, h3⟩
  · exact .inl h
  · exact .inr ⟨ad, cap, rfl, h2, fun i u hu => hf.cell (h3 i u hu) (by rw [add_block]; exact hd _ rfl)⟩
theorem Blk.fx {S : Nat → Prop} {w w' : World} {g : Nat} {cs : List Value} {t : TypeId} (h : Blk w g cs t) (hf : Fx S w w') (hg : ¬ S g) : Blk w' g cs t := by
  have hl := h.lt
  unfold Blk at h ⊢
  rw [hf.block g hl hg]; exact h
theorem Kst.fx {S : Nat → Prop} {w w' : World} (h : Kst w) (hf : Fx S w w') (hg : ¬ S 0) : Kst w' := fun t ht => hf.cell (h t ht) hg

theorem splice_one (cs : List Value) (o : Nat) (v : Value) (r : List Value) (h : o + (v :: r).length ≤ cs.length) :
    (cs.set o v).take (o + 1) ++ r ++ (cs.set o v).drop (o + 1 + r.length) = cs.take o ++ (v :: r) ++ cs.drop (o + (v :: r).length) := by
  simp only [List.length_cons] at h ⊢
  have hl : o < cs.length := by omega
  rw [List.take_add_one, List.getElem?_set_self hl, List.drop_set_of_lt (by omega), List.take_set_of_le (Nat.le_refl _)]
  simp [Nat.add_assoc, Nat.add_comm 1]

theorem Blk.setCells {g : Nat} {t : TypeId} : ∀ (vs : List Value) (o : Nat) (w : World) (cs : List Value), Blk w g cs t → o + vs.length ≤ cs.length → Blk (w.setCells g o vs) g (cs.take o ++ vs ++ cs.drop (o + vs.length)) t
  | [], o, w, cs, h, _ => by rw [World.setCells]; simpa using h
  | v :: r, o, w, cs, h, hl => by
    rw [World.setCells, ← splice_one cs o v r hl]
    exact Blk.setCells r (o + 1) _ _ (h.set o v) (by simp at hl ⊢; omega)

/-- The hash at block p was handed the bytes m. -/
def HAt (w : World) (p : Nat) (m : List UInt8) : Prop := Blk w p (hcells m) 136
/-- A hash whose parts are these. -/
structure HR (w : World) (p : Nat) (s : List (BitVec 32)) (r : List UInt8) (n : Int) : Prop where
  bl : Blk w p (hc s r n) 136
  hs : s.length = 8
  hr : r.length = 64

theorem HAt.hr {w : World} {p : Nat} {m : List UInt8} (h : HAt w p m) : HR w p (stt m) (rst m) m.length := ⟨h, stt_length m, rst_length m⟩
theorem HR.size {w : World} {p : Nat} {s : List (BitVec 32)} {r : List UInt8} {n : Int} (h : HR w p s r n) : w.cell? ⟨p, 72, none⟩ = some (.int .i64 n) := by
  rw [h.bl.cell, hc_size s r n h.hs h.hr]
theorem HR.frozen {w : World} {p : Nat} {s : List (BitVec 32)} {r : List UInt8} {n : Int} (h : HR w p s r n) (j : Nat) : w.frozen? ⟨p, j, none⟩ = false := h.bl.frozen j
theorem HR.state {w : World} {p : Nat} {s : List (BitVec 32)} {r : List UInt8} {n : Int} (h : HR w p s r n) : w.rangeAt p 0 (wvs s) := fun j v hv => by
  have hj : j < (wvs s).length := (List.getElem?_eq_some_iff.1 hv).1
  rw [Nat.zero_add, h.bl.cell, hc, List.getElem?_append_left hj, hv]
theorem HR.there {w : World} {p : Nat} {s : List (BitVec 32)} {r : List UInt8} {n : Int} (h : HR w p s r n) (o k : Nat) (hk : o + k ≤ 73) : w.there p o k := fun j hj =>
  ⟨by rw [h.bl.cell, List.getElem?_eq_getElem (by rw [hc_length s r n h.hs h.hr]; omega)]; rfl, h.bl.frozen _⟩
theorem HR.rest {w : World} {p : Nat} {s : List (BitVec 32)} {r : List UInt8} {n : Int} (h : HR w p s r n) : w.rangeAt p 8 (r.map byt) := fun j v hv => by
  rw [h.bl.cell, hc_rest s r n h.hs j v hv]
theorem HR.some {w : World} {p : Nat} {s : List (BitVec 32)} {r : List UInt8} {n : Int} (h : HR w p s r n) (j : Nat) (hj : j < 73) : (w.cell? ⟨p, j, none⟩).isSome = true := by
  rw [h.bl.cell, List.getElem?_eq_getElem (by rw [hc_length s r n h.hs h.hr]; exact hj)]; rfl
theorem HR.putSize {w : World} {p : Nat} {s : List (BitVec 32)} {r : List UInt8} {n : Int} (h : HR w p s r n) (k : Int) : HR (w.setCell ⟨p, 72, none⟩ (.int .i64 k)) p s r k :=
  ⟨by rw [← hc_put_size s r n k h.hs h.hr]; exact h.bl.set 72 _, h.hs, h.hr⟩
theorem HR.putRest {w : World} {p : Nat} {s : List (BitVec 32)} {r : List UInt8} {n : Int} (h : HR w p s r n) (o : Nat) (x : List UInt8) (ho : o + x.length ≤ 64) : HR (w.setCells p (8 + o) (x.map byt)) p s (r.take o ++ x ++ r.drop (o + x.length)) n := by
  have hr := h.hr
  refine ⟨?_, h.hs, by simp; omega⟩
  rw [← hc_put_rest s r x n o h.hs (by omega)]
  exact Blk.setCells _ _ _ _ h.bl (by rw [hc_length s r n h.hs h.hr, List.length_map]; omega)
theorem HR.putState {w : World} {p : Nat} {s : List (BitVec 32)} {r : List UInt8} {n : Int} (h : HR w p s r n) (t : List (BitVec 32)) (ht : t.length = 8) : HR (w.setCells p 0 (wvs t)) p t r n := by
  refine ⟨?_, ht, h.hr⟩
  rw [← hc_put_state s t r n h.hs ht]
  exact Blk.setCells _ _ _ _ h.bl (by rw [hc_length s r n h.hs h.hr, wvs_length]; omega)
end Go.Proofs.YtiefgmgjlhjjhaaDoor
