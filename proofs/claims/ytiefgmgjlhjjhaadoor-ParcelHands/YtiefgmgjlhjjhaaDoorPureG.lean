import Derived.Test.YtiefgmgjlhjjhaaDoorRows
import Derived.WalkKit
import Derived.ProofKit
import Derived.OpenShut
import Derived.ChangeOld
import Derived.Below
import Derived.SizedLaws
import Derived.Lib.LaidTab
import Derived.Deep.Slices
import Derived.Test.YtiefgmgjlhjjhaaDoorComp
namespace Go.Proofs.YtiefgmgjlhjjhaaDoor
open Go.ChangeShapes Go.WideShapes Go.ChangeAt Go.RowKit
namespace Row

theorem own : ownKnob Tryd.prog.godebug = none := by kernel_rfl
theorem laidOut : laidOutB Tryd.prog = true := by kernel_rfl
theorem gTabType : (Tryd.prog.globals[0]?).map (·.type) = some 140 := by kernel_rfl
theorem cells59 : Tryd.prog.cellsOf 140 = 64 := by kernel_rfl
theorem cells38 : Tryd.prog.cellsOf 22 = 1 := by kernel_rfl

theorem kn_length : Kn.length = 64 := by kernel_rfl
theorem kn_small : Kn.all (· < 4294967296) = true := by kernel_rfl
theorem kw_wn (t : Nat) (ht : t < 64) : wn (kw t) = ((Kn.map (fun n : Nat => (n : Int))).getD t 0) := by
  have hl : t < Kn.length := by rw [kn_length]; exact ht
  have hs : Kn[t] < 4294967296 := by
    have := List.all_eq_true.1 kn_small Kn[t] (List.getElem_mem hl)
    simpa using this
  unfold wn kw
  simp only [List.getD_eq_getElem?_getD, List.getElem?_map, List.getElem?_eq_getElem hl, Option.getD_some, Option.map_some]
  rw [BitVec.toNat_ofNat, Nat.mod_eq_of_lt hs]

/-- The laid table, by its name. -/
theorem consts_of {W : World} (nm : String) (hg : Tryd.prog.globalNamed nm = some 0) (h : laidMetH Tryd.prog [(nm, Rows.laid_lethe_sha_constants)] W) : Kst W := fun t ht => by
  rw [kw_wn t ht]
  have htab : Lib.TabIs Tryd.prog W nm .u32 (Kn.map (fun n : Nat => (n : Int))) := Lib.tabIs_of_head (rest := []) hg gTabType Tryd.underlying140 Tryd.underlying22 cells38 cells59 h
  have hl : t < (Kn.map (fun n : Nat => (n : Int))).length := by rw [List.length_map, kn_length]; exact ht
  have := htab.cell hg t hl
  simpa [List.getD_eq_getElem?_getD, List.getElem?_eq_getElem hl] using this

end Row
end Go.Proofs.YtiefgmgjlhjjhaaDoor
namespace Go.Proofs.YtiefgmgjlhjjhaaDoor
open Go.RowKit

/-- The state ahead of the first block. -/
def iv : List (BitVec 32) := [BitVec.ofNat 32 1779033703, BitVec.ofNat 32 3144134277, BitVec.ofNat 32 1013904242, BitVec.ofNat 32 2773480762, BitVec.ofNat 32 1359893119, BitVec.ofNat 32 2600822924, BitVec.ofNat 32 528734635, BitVec.ofNat 32 1541459225]

def blk (m : List UInt8) (k : Nat) : List UInt8 := (m.drop (64 * k)).take 64
def stN (m : List UInt8) : Nat → List (BitVec 32)
  | 0 => iv
  | k + 1 => comp (stN m k) (blk m k)
/-- The state behind the whole blocks of m. -/
def stt (m : List UInt8) : List (BitVec 32) := stN m (m.length / 64)
def z64b : List UInt8 := List.replicate 64 0
/-- What lies behind the whole blocks, and zeros. -/
def rst (m : List UInt8) : List UInt8 := m.drop (64 * (m.length / 64)) ++ List.replicate (64 - m.length % 64) 0

theorem stN_length (m : List UInt8) : ∀ k, (stN m k).length = 8
  | 0 => rfl
  | k + 1 => by rw [stN, comp_length, stN_length m k]
theorem stt_length (m : List UInt8) : (stt m).length = 8 := stN_length m _
theorem rst_length (m : List UInt8) : (rst m).length = 64 := by
  simp only [rst, List.length_append, List.length_drop, List.length_replicate]; omega
theorem z64b_length : z64b.length = 64 := by rw [z64b, List.length_replicate]

theorem blk_append (m x : List UInt8) (k : Nat) (h : 64 * (k + 1) ≤ m.length) : blk (m ++ x) k = blk m k := by
  unfold blk
  rw [List.drop_append_of_le_length (by omega), List.take_append_of_le_length (by rw [List.length_drop]; omega)]
theorem stN_append (m x : List UInt8) : ∀ k, 64 * k ≤ m.length → stN (m ++ x) k = stN m k
  | 0, _ => rfl
  | k + 1, h => by rw [stN, stN, stN_append m x k (by omega), blk_append m x k h]

theorem rst_take (m : List UInt8) : (rst m).take (m.length % 64) = m.drop (64 * (m.length / 64)) := by
  have e : (m.drop (64 * (m.length / 64))).length = m.length % 64 := by rw [List.length_drop]; omega
  unfold rst
  rw [← e]
  exact List.take_left
theorem rst_drop (m : List UInt8) (j : Nat) : (rst m).drop (m.length % 64 + j) = List.replicate (64 - m.length % 64 - j) 0 := by
  have e : (m.drop (64 * (m.length / 64))).length = m.length % 64 := by rw [List.length_drop]; omega
  unfold rst
  rw [← List.drop_drop, List.drop_append_of_le_length (by rw [e]; exact Nat.le_refl _), show (m.drop (64 * (m.length / 64))).drop (m.length % 64) = [] from List.drop_of_length_le (by rw [e]; exact Nat.le_refl _), List.nil_append, List.drop_replicate]

/-- Fewer bytes than fill the block. -/
theorem step_lt (m x : List UInt8) (h : m.length % 64 + x.length < 64) : stt (m ++ x) = stt m ∧ rst (m ++ x) = (rst m).take (m.length % 64) ++ x ++ (rst m).drop (m.length % 64 + x.length) := by
  have hd : (m ++ x).length / 64 = m.length / 64 := by rw [List.length_append]; omega
  have hm : (m ++ x).length % 64 = m.length % 64 + x.length := by rw [List.length_append]; omega
  refine ⟨?_, ?_⟩
  · unfold stt
    rw [hd, stN_append m x _ (by omega)]
  · rw [rst_take, rst_drop]
    unfold rst
    rw [hd, hm, List.drop_append_of_le_length (by omega), show 64 - m.length % 64 - x.length = 64 - (m.length % 64 + x.length) by omega]

/-- As many as fill it. -/
theorem step_eq (m x : List UInt8) (h : m.length % 64 + x.length = 64) : stt (m ++ x) = comp (stt m) ((rst m).take (m.length % 64) ++ x ++ (rst m).drop (m.length % 64 + x.length)) ∧ rst (m ++ x) = z64b := by
  have hd : (m ++ x).length / 64 = m.length / 64 + 1 := by rw [List.length_append]; omega
  have hm : (m ++ x).length % 64 = 0 := by rw [List.length_append]; omega
  have hl : (m ++ x).length = 64 * (m.length / 64 + 1) := by rw [List.length_append]; omega
  have e0 : (rst m).drop (m.length % 64 + x.length) = [] := by rw [rst_drop, show 64 - m.length % 64 - x.length = 0 by omega]; rfl
  refine ⟨?_, ?_⟩
  · rw [rst_take, e0, List.append_nil]
    unfold stt
    rw [hd, stN, stN_append m x _ (by omega)]
    congr 1
    unfold blk
    rw [List.drop_append_of_le_length (by omega), List.take_of_length_le (by rw [List.length_append, List.length_drop]; omega)]
  · unfold rst
    rw [hd, hm, ← hl, List.drop_length]
    rfl

/-- The cells of a hash: its state, its rest, its size. -/
def hc (s : List (BitVec 32)) (r : List UInt8) (n : Int) : List Value := wvs s ++ (r.map byt ++ [.int .i64 n])
def hcells (m : List UInt8) : List Value := hc (stt m) (rst m) m.length

theorem hc_length (s : List (BitVec 32)) (r : List UInt8) (n : Int) (hs : s.length = 8) (hr : r.length = 64) : (hc s r n).length = 73 := by
  simp [hc, wvs_length, hs, hr]
theorem hc_rest (s : List (BitVec 32)) (r : List UInt8) (n : Int) (hs : s.length = 8) (j : Nat) (v : Value) (hj : (r.map byt)[j]? = some v) : (hc s r n)[8 + j]? = some v := by
  have hl : j < (r.map byt).length := (List.getElem?_eq_some_iff.1 hj).1
  rw [hc, List.getElem?_append_right (by rw [wvs_length]; omega), wvs_length, hs, Nat.add_sub_cancel_left, List.getElem?_append_left hl, hj]
theorem hc_size (s : List (BitVec 32)) (r : List UInt8) (n : Int) (hs : s.length = 8) (hr : r.length = 64) : (hc s r n)[72]? = some (.int .i64 n) := by
  rw [hc, List.getElem?_append_right (by rw [wvs_length]; omega), wvs_length, hs, List.getElem?_append_right (by simp [hr])]
  simp [hr]
theorem hc_put_size (s : List (BitVec 32)) (r : List UInt8) (n k : Int) (hs : s.length = 8) (hr : r.length = 64) : (hc s r n).set 72 (.int .i64 k) = hc s r k := by
  unfold hc
  rw [List.set_append_right _ _ (by rw [wvs_length]; omega), wvs_length, hs, List.set_append_right _ _ (by simp [hr])]
  simp [hr]
/-- Cells of the rest turned. -/
theorem hc_put_rest (s : List (BitVec 32)) (r x : List UInt8) (n : Int) (o : Nat) (hs : s.length = 8) (ho : o + x.length ≤ r.length) :
    (hc s r n).take (8 + o) ++ x.map byt ++ (hc s r n).drop (8 + o + (x.map byt).length) = hc s (r.take o ++ x ++ r.drop (o + x.length)) n := by
  have hw : (wvs s).length = 8 := by rw [wvs_length, hs]
  unfold hc
  rw [← hw, List.take_length_add_append, List.length_map, Nat.add_assoc, List.drop_length_add_append, List.take_append_of_le_length (by simp; omega), List.drop_append_of_le_length (by simp; omega)]
  simp [List.map_take, List.map_drop]
/-- The state turned. -/
theorem hc_put_state (s t : List (BitVec 32)) (r : List UInt8) (n : Int) (hs : s.length = 8) (ht : t.length = 8) :
    (hc s r n).take 0 ++ wvs t ++ (hc s r n).drop (0 + (wvs t).length) = hc t r n := by
  unfold hc
  rw [List.take_zero, List.nil_append, Nat.zero_add, show (wvs t).length = (wvs s).length by rw [wvs_length, wvs_length, hs, ht], List.drop_left]
end Go.Proofs.YtiefgmgjlhjjhaaDoor
