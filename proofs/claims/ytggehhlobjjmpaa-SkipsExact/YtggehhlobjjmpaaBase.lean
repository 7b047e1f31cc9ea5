import Derived.Test.YtggehhlobjjmpaaRows
import Derived.WalkKit
import Derived.WalkSpells
import Derived.WalkLawsBesides
import Derived.Laws.BytesArg
import Derived.Laws.AppendOwnNone
import Derived.Lib.SliceRun
set_option linter.unusedVariables false
set_option linter.unusedSimpArgs false
namespace Go.Proofs.Ytggehhlobjjmpaa
open Go.RowKit

theorem hide {p : Prop} (h : p) : Hid p := h

/-- A byte as a value. -/
def byt (b : UInt8) : Value := .int .u8 (b.toNat : Int)

/-- The slice value v holds the bytes bs in the world w. -/
def Has (w : World) (v : Value) (bs : List UInt8) : Prop :=
  (v = .slice none 0 0 ∧ bs = []) ∨ ∃ ad cap, v = .slice (some ad) bs.length cap ∧ bs.length ≤ cap ∧ ∀ i u, bs[i]? = some u → w.cell? (ad.add i) = some (byt u)

theorem Has.nil (w : World) : Has w (.slice none 0 0) [] := .inl ⟨rfl, rfl⟩

theorem Has.cellsEq {w w' : World} {v : Value} {bs : List UInt8} (h : Has w v bs) (hb : ∀ a u, w.cell? a = some u → w'.cell? a = some u) : Has w' v bs := by
  rcases h with h | ⟨ad, cap, h1, h2, h3⟩
  · exact .inl h
  · exact .inr ⟨ad, cap, h1, h2, fun i u hu => hb _ _ (h3 i u hu)⟩

theorem cell_lt {w : World} {a : Addr} {u : Value} (h : w.cell? a = some u) : a.block < w.heap.size := by
  unfold World.cell? at h
  rcases Nat.lt_or_ge a.block w.heap.size with hl | hl
  · exact hl
  · rw [Array.getElem?_eq_none hl] at h; simp at h

theorem Has.below {w w' : World} {v : Value} {bs : List UInt8} (h : Has w v bs) (hb : Below w.heap.size w w') : Has w' v bs :=
  h.cellsEq fun _ _ hu => (hb.cell (cell_lt hu)).trans hu

theorem Has.drewN {w : World} {v : Value} {bs : List UInt8} (h : Has w v bs) (q : Nat) : Has (w.drewN q) v bs := h.cellsEq fun a u hu => by simpa using hu

theorem or_u8 (a b : UInt8) : bits .or .u8 (a.toNat : Int) (b.toNat : Int) = ((a ||| b).toNat : Int) := by
  rw [(bits_nat .u8 8 (by decide) wraps_u8 a.toNat b.toNat a.toNat_lt b.toNat_lt).2, UInt8.toNat_or]
theorem and_u8 (a b : UInt8) : bits .and .u8 (a.toNat : Int) (b.toNat : Int) = ((a &&& b).toNat : Int) := by
  rw [(bits_nat .u8 8 (by decide) wraps_u8 a.toNat b.toNat a.toNat_lt b.toNat_lt).1, UInt8.toNat_and]
theorem xor_u8 (a b : UInt8) : bits .xor .u8 (a.toNat : Int) (b.toNat : Int) = ((a ^^^ b).toNat : Int) := by
  have h1 := a.toNat_lt
  have h2 := b.toNat_lt
  have ha' : a.toNat % 2 ^ 8 = a.toNat := Nat.mod_eq_of_lt h1
  have hb' : b.toNat % 2 ^ 8 = b.toNat := Nat.mod_eq_of_lt h2
  have e : (BitVec.ofNat 8 a.toNat ^^^ BitVec.ofNat 8 b.toNat).toNat = a.toNat ^^^ b.toNat := by
    rw [BitVec.toNat_xor, BitVec.toNat_ofNat, BitVec.toNat_ofNat, ha', hb']
  show IntKind.u8.wrap (((BitVec.ofInt 8 (a.toNat : Int)) ^^^ (BitVec.ofInt 8 (b.toNat : Int))).toNat : Int) = _
  rw [BitVec.ofInt_natCast, BitVec.ofInt_natCast, e, UInt8.toNat_xor]
  have := Nat.xor_lt_two_pow h1 h2
  exact wraps_u8 _ (Int.natCast_nonneg _) (by exact_mod_cast this)

/-- The slice value v, made by the call itself (from block 'base' on), owns the bytes bs. -/
def Own (w : World) (base : Nat) (v : Value) (bs : List UInt8) : Prop := w.ownsRow base 5 1 v bs.length (bs.map byt)

theorem add_plain (g k : Nat) : (⟨g, 0, none⟩ : Addr).add k = ⟨g, k, none⟩ := by
  unfold Addr.add; split <;> simp_all

theorem Own.has {w : World} {base : Nat} {v : Value} {bs : List UInt8} (h : Own w base v bs) : Has w v bs := by
  obtain ⟨_, h | ⟨g, cap, cur, hv, hg, hh, hn, hc, hs, ht⟩⟩ := h
  · exact .inl ⟨h.1, List.eq_nil_of_length_eq_zero h.2⟩
  · refine .inr ⟨⟨g, 0, none⟩, cap, hv, hn, fun i u hu => ?_⟩
    rw [add_plain]
    have hi : i < bs.length := by
      rcases Nat.lt_or_ge i bs.length with h | h
      · exact h
      · rw [List.getElem?_eq_none h] at hu; cases hu
    have e : cur[i]? = some (byt u) := by
      have : (bs.map byt)[i]? = some (byt u) := by simp [hu]
      rw [← ht, Nat.mul_one, List.getElem?_take_of_lt hi, Array.getElem?_toList] at this
      exact this
    simp [World.cell?, hh, e]

theorem Own.nil (w : World) (base : Nat) : Own w base (.slice none 0 0) [] := ⟨rfl, .inl ⟨rfl, rfl⟩⟩

theorem Own.blocks {w w' : World} {base : Nat} {v : Value} {bs : List UInt8} (h : Own w base v bs) (hb : ∀ k, k < w.heap.size → w'.heap[k]? = w.heap[k]?) : Own w' base v bs := by
  obtain ⟨h1, h | ⟨g, cap, cur, hv, hg, hh, r⟩⟩ := h
  · exact ⟨h1, .inl h⟩
  · refine ⟨h1, .inr ⟨g, cap, cur, hv, hg, ?_, r⟩⟩
    rw [hb g ?_, hh]
    rcases Nat.lt_or_ge g w.heap.size with hl | hl
    · exact hl
    · rw [Array.getElem?_eq_none hl] at hh; cases hh

theorem Own.below {w w' : World} {base : Nat} {v : Value} {bs : List UInt8} (h : Own w base v bs) (hb : Below w.heap.size w w') : Own w' base v bs := h.blocks hb.block

theorem Own.weaken {w : World} {base base' : Nat} {v : Value} {bs : List UInt8} (h : Own w base v bs) (hb : base' ≤ base) : Own w base' v bs := by
  obtain ⟨h1, h | ⟨g, cap, cur, hv, hg, r⟩⟩ := h
  · exact ⟨h1, .inl h⟩
  · exact ⟨h1, .inr ⟨g, cap, cur, hv, Nat.le_trans hb hg, r⟩⟩

theorem Own.ownBlock {w : World} {base : Nat} {v : Value} {bs : List UInt8} (h : Own w base v bs) : ∀ k, v.ownBlock = some k → base ≤ k := by
  intro k hk
  obtain ⟨_, ⟨rfl, _⟩ | ⟨g, cap, cur, rfl, hg, _⟩⟩ := h
  · cases hk
  · simp [Value.ownBlock] at hk; omega

theorem Try.info5 : (Try.prog.info? 5).map (fun i => (i.zero, i.size, i.bytes)) = some (some (.int .u8 0), 1, 1) := by kernel_rfl

theorem byt_one (bs : List UInt8) : ∀ u ∈ bs.map byt, u.oneCell' = true := by
  intro u hu
  obtain ⟨b, _, rfl⟩ := List.mem_map.1 hu
  rfl

theorem grown_refl (w : World) (row : Option Nat) : w.grownBy w row := ⟨rfl, rfl, rfl, Nat.le_refl _, fun _ _ _ => rfl⟩

theorem growBy_le (need : Nat) : ∀ rounds c, c < need → Builtin.growBy need rounds c ≤ need + (need + 768) / 4
  | 0, c, h => by unfold Builtin.growBy; omega
  | rounds + 1, c, h => by
    unfold Builtin.growBy
    rw [if_neg (by omega)]
    by_cases hc : c + (c + 768) / 4 < need
    · exact growBy_le need rounds _ hc
    · cases rounds with
      | zero => unfold Builtin.growBy; omega
      | succ r => unfold Builtin.growBy; rw [if_pos (by omega)]; omega

theorem nextcap_le (need old : Nat) (h : old < need) : Builtin.nextslicecap need old ≤ need + (need + 768) / 4 := by
  unfold Builtin.nextslicecap
  split
  · omega
  · split
    · omega
    · exact growBy_le need 4 old h

/-- The slice value v (of type [][]byte) holds the parts, each of which holds its bytes. -/
def Parts (w : World) (v : Value) (ps : List (Value × List UInt8)) : Prop :=
  (v = .slice none 0 0 ∧ ps = []) ∨ ∃ ad cap, v = .slice (some ad) ps.length cap ∧ ps.length ≤ cap ∧ ∀ i p, ps[i]? = some p → w.cell? (ad.add i) = some p.1 ∧ Has w p.1 p.2

end Go.Proofs.Ytggehhlobjjmpaa
