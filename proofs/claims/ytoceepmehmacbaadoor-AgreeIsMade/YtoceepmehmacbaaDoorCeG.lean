import Derived.Test.YtoceepmehmacbaaDoorExp2G
import Derived.Test.YtoceepmehmacbaaDoorOz
import Derived.Test.YtoceepmehmacbaaDoorRefaG
import Derived.Stop.LaidErr
import Derived.Test.YtoceepmehmacbaaDoorRegG
namespace Go.Proofs.YtoceepmehmacbaaDoor
open Go.RowKit

set_option maxHeartbeats 400000 in
set_option maxRecDepth 100000 in
/-- 'Derive'. -/
theorem derive_ok (vs vk vi : Value) (salt key info : List UInt8) (n : Nat) (w : World) (hs : Has w vs salt) (hk : Has w vk key) (hi : Has w vi info) (hK : Kst w) (hsl : salt.length ≤ 1152921504606846976) (hkl : key.length ≤ 1000000000000000000) (hil : info.length ≤ 900000000000000000) (hn : n ≤ 8160) :
    Calls Tryd.prog 9 #[vs, vk, vi, .int .i64 (n : Int)] w fun e w' => ∃ g, e = .returned (.tuple #[.slice (some ⟨g, 0, none⟩) n n, .int .i64 0]) ∧ Tu w w' g (exOut (macOf salt key) info n) := by
  have HIL := hide hil
  clear hil
  obtain ⟨D, hD⟩ : ∃ D, macOf salt key = D := ⟨_, rfl⟩
  have l1 : D.length = 32 := by rw [← hD]; exact macOf_length _ _
  have i42 := info24 D l1
  have L1 := hide l1
  have HD := hide hD
  have HS := hide hs
  have HKY := hide hk
  have HI := hide hi
  have HK := hide hK
  have HSL := hide hsl
  have HKL := hide hkl
  clear l1 hD hs hk hi hK hsl hkl
  go_enter Tryd.func9, Tryd.ntmps9
  go_wp2_with fail
  refine (extract_is vs vk salt key D HD.out w HS.out HKY.out HK.out HSL.out HKL.out).mono ?_
  rintro e w1 ⟨rfl, hb1⟩
  have B1 := hide hb1
  clear hb1
  have E2 : Hid (Dgt w ((w1.alloc (.cells (z32.map byt).toArray 57)).setRow w1.heap.size (D.map byt).toArray) w1.heap.size D) := (Dgt.new B1.out).row
  go_upto_region 2 with (first
    | (refine wpList_newAt rfl 57 rfl (z32.map byt) zero24 w1.heap.size rfl ?_)
    | (refine wpList_store_row rfl 57 (.tmp 10) (.tmp 13) rfl w1.heap.size (D.map byt).toArray rfl rfl 57 (z32.map byt).toArray (Blk.new w1 _ _) i42 (by rw [List.size_toArray, List.size_toArray, List.length_map, List.length_map, L1.out]; rfl) (byts_one _) ?_)
    | fail)
  generalize (w1.alloc (.cells (z32.map byt).toArray 57)).setRow w1.heap.size (D.map byt).toArray = w2 at E2 ⊢
  generalize w1.heap.size = d at E2 ⊢
  simp only [Act.put, List.setIfInBounds_toArray, List.set_cons_zero, List.set_cons_succ]
  have hp : Hid (Has w2 (.slice (some ⟨d, 0, none⟩) 32 32) D) := E2.out.has 32 L1.out
  go_wp2_with fail
  refine (expand_ok (.slice (some ⟨d, 0, none⟩) 32 32) vi D info n w2 hp.out (HI.out.below E2.out.be) (HK.out.below E2.out.be HK.out.lt) (by rw [L1.out]; decide) HIL.out hn).mono ?_
  rintro e w3 ⟨g, rfl, hT⟩
  have T3 : Hid (Tu w w3 g (exOut (macOf salt key) info n)) := by
    rw [HD.out]
    exact ⟨hT.bl, E2.out.be.trans (hT.be.mono E2.out.be.size), Nat.le_trans E2.out.be.size hT.lp⟩
  clear hT
  go_wp2
  go_ret2
  exact ⟨g, rfl, T3.out⟩

end Go.Proofs.YtoceepmehmacbaaDoor

set_option linter.unusedVariables false
set_option linter.unusedSimpArgs false
namespace Go.Proofs.YtoceepmehmacbaaDoor
open Go.RowKit

section
variable {P : Program} {n : Nat} {ops : Array Oper} {Q : Exit → Act → World → Prop} {i : Nat} {ty : TypeId} {ps : String} {af : Array Edge} {gd : Option (Nat × Bool)} {r : List Oper} {e : List (Nat × Value)} {w w' : World}
end
section
variable {P : Program} {n : Nat} {ops : Array Oper} {S : Nat → World → Prop} {K : List (Nat × Value) → (World → Prop) → Prop} {i c lv : Nat} {ty : TypeId} {ps : String} {af : Array Edge} {gd : Option (Nat × Bool)} {r : List (Oper × Nat × Nat)} {e : List (Nat × Value)} {C : World → Prop}
theorem ZE.slice0 {t : TypeId} {x : Operand} {u v : Value} (h1 : decide (c = 1) = false) (hw : wantE ops e ⟨some i, .slice t x none none none, ty, ps, af, gd⟩ = some true) (hi : decide (i < n) = true) (hx : evE e x = some u) (hc : ∀ w, C w → SZ S c lv C w) (hr : ∀ w, (Instr.sliceAt t u none none none).run P w = .ok v w) (k : wpZE P n ops S K r ((i, v) :: e) C) : wpZE P n ops S K ((⟨some i, .slice t x none none none, ty, ps, af, gd⟩, c, lv) :: r) e C :=
  ZE.val h1 hw hi hc (fun a ha W hW => by simp [execOp, ha.ev hx, hr W, Result.andThen]) k
theorem ZE.s2a {t : TypeId} {x : Operand} {u v : Value} (h1 : decide (c = 1) = false) (hw : wantE ops e ⟨some i, .sliceToArrayPointer t x, ty, ps, af, gd⟩ = some true) (hi : decide (i < n) = true) (hx : evE e x = some u) (hc : ∀ w, C w → SZ S c lv C w) (hr : ∀ w, (Instr.arrayAt t u).run P w = .ok v w) (k : wpZE P n ops S K r ((i, v) :: e) C) : wpZE P n ops S K ((⟨some i, .sliceToArrayPointer t x, ty, ps, af, gd⟩, c, lv) :: r) e C :=
  ZE.val h1 hw hi hc (fun a ha W hW => by simp [execOp, ha.ev hx, hr W, Result.andThen]) k
end
/-- A key as a value. -/
def kv (K : List UInt8) : Value := .agg (K.map byt).toArray
theorem i23 {K : List UInt8} (h : K.length = 32) : (Tryd.prog.info? 23).map (·.size) = some (K.map byt).length := by rw [List.length_map, h]; kernel_rfl
theorem z23 (w : World) : (zeroValue 23).run Tryd.prog w = .ok (kv z32) w := (zero_of_info (show (Tryd.prog.info? 23).map (fun i => (i.zero, i.size)) = some (some (kv z32), 32) by kernel_rfl)).1 w
theorem bytsOne (K : List UInt8) : (K.map byt).toArray.all (·.oneCell') = true := byts_one K
theorem box23 (K : List UInt8) (w : World) : ∃ w1 q, (Instr.box 23 (kv K)).run Tryd.prog w = .ok (.pointer (some ⟨q, 0, none⟩)) w1 ∧ Blk w1 q (K.map byt) 23 ∧ Below w.heap.size w w1 ∧ q = w.heap.size :=
  ⟨_, _, run_boxR 23 _ w _ rfl, Blk.new _ _ _, below_new _ _, rfl⟩
theorem new23 (w : World) : ∃ w1 q, (Instr.alloc 23 true (.tuple #[])).run Tryd.prog w = .ok (.pointer (some ⟨q, 0, none⟩)) w1 ∧ Blk w1 q (z32.map byt) 23 ∧ Below w.heap.size w w1 ∧ q = w.heap.size :=
  ⟨_, _, run_newR 23 _ z23 w _ rfl, Blk.new _ _ _, below_new _ _, rfl⟩
theorem st23 {w : World} {q : Nat} {old K : List UInt8} {t : TypeId} (hb : Blk w q (old.map byt) t) (ho : old.length = 32) (hK : K.length = 32) : ∃ w', (Instr.storeAt 23 (.pointer (some ⟨q, 0, none⟩)) (kv K)).run Tryd.prog w = .ok () w' ∧ Blk w' q (K.map byt) t ∧ Fx (fun k => k = q) w w' :=
  ⟨_, run_storeR hb (i23 hK) (by rw [List.length_map, List.length_map, ho, hK]) (bytsOne K), hb.setRow _, Fx.setRow w q _ rfl⟩
theorem ld23 {w : World} {q : Nat} {K : List UInt8} {t : TypeId} (hb : Blk w q (K.map byt) t) (hK : K.length = 32) : (Instr.loadAt 23 (.pointer (some ⟨q, 0, none⟩))).run Tryd.prog w = .ok (kv K) w :=
  run_loadR hb (show Tryd.prog.underlying 23 = some (.array 32 5) by kernel_rfl) rfl (i23 hK)
theorem z32l : z32.length = 32 := rfl
theorem sl23 (q : Nat) (W : World) : (Instr.sliceAt 23 (.pointer (some ⟨q, 0, none⟩)) none none none).run Tryd.prog W = .ok (.slice (some ⟨q, 0, none⟩) 32 32) W := by
  go_simp
  try simp
  try rw [add_plain]
theorem bsl1 (b : UInt8) (w : World) : (Instr.buildSlice 40 1 [(0, .int .u8 (b.toNat : Int))].toArray).run Tryd.prog w = .ok (.slice (some ⟨w.heap.size, 0, none⟩) 1 1) (w.alloc (.cells #[byt b] 5)) := by
  go_simp
  try simp
  try rfl
theorem s2a (g o n c : Nat) (h : 32 ≤ n) (W : World) : (Instr.arrayAt 23 (.slice (some ⟨g, o, none⟩) n c)).run Tryd.prog W = .ok (.pointer (some ⟨g, o, none⟩)) W := by
  have h' : ¬ n < 32 := by omega
  unfold Instr.arrayAt
  go_simp
  try simp
end Go.Proofs.YtoceepmehmacbaaDoor

set_option linter.unusedVariables false
set_option linter.unusedSimpArgs false
namespace Go.Proofs.YtoceepmehmacbaaDoor
open Go.RowKit

theorem u23 : Tryd.prog.underlying 23 = some (.array 32 5) := by kernel_rfl
section
variable {n : Nat} {e : List (Nat × Value)} {w : World}
end
theorem Kst.on {w w' : World} (h : Kst w) (hb : Below w.heap.size w w') : Kst w' := h.below hb h.lt
end Go.Proofs.YtoceepmehmacbaaDoor

set_option linter.unusedVariables false
set_option linter.unusedSimpArgs false
namespace Go.Proofs.YtoceepmehmacbaaDoor
open Go.ChangeShapes Go.WideShapes Go.ChangeAt Go.RowKit
namespace Row
theorem cells23 : Tryd.prog.cellsOf 23 = 32 := by kernel_rfl
set_option maxRecDepth 100000 in
/-- An array of numbers that came in. -/
theorem row_of_trod {H : Type} {enc : TypeId × Value → H} {P : Program} {W : World} {base : Nat} {spare : Nat → Bool} {held : Bool} {fuel : Nat} {t e : TypeId} {n : Nat} {k : IntKind} {cs : List Value} {x : DataW H × List MemPlace} (ht : P.underlying t = some (.array n e)) (he : P.underlying e = some (.int k)) (hce : P.cellsOf e = 1) (hct : P.cellsOf t = n)
    (h : DataW.trod enc P W base spare held fuel t cs = some x) : ∃ zs : List Int, zs.length = n ∧ cs = zs.map (Value.int k) ∧ ∀ z ∈ zs, (Lit.int k z).wf = true := by
  obtain ⟨xs, m, _, _, hl, hlen, hf⟩ := DataW.trod_array ht h
  rw [hct] at hl
  obtain ⟨F, hF⟩ := Deep.choose_lt (α := Int) (n := n) (p := fun i z => cs[i]? = some (.int k z) ∧ (Lit.int k z).wf = true) (fun i hi => by
    have h1 := hf i hi
    rw [hce, List.getElem?_eq_getElem (by omega)] at h1
    obtain ⟨z, e0, _, wf⟩ := DataW.trod_int he h1
    refine ⟨z, ?_, wf⟩
    have h2 : ((cs.drop (i * 1)).take 1)[0]? = some (.int k z) := by rw [e0]; rfl
    simpa using h2)
  refine ⟨(List.range n).map F, by simp, List.ext_getElem? fun i => ?_, fun z hz => ?_⟩
  · rcases Nat.lt_or_ge i n with hi | hi
    · rw [(hF i hi).1]; simp [hi]
    · rw [List.getElem?_eq_none (by omega), List.getElem?_eq_none (by simp; omega)]
  · obtain ⟨i, hi, rfl⟩ := List.mem_map.1 hz
    exact (hF i (List.mem_range.1 hi)).2
theorem bytes_row (zs : List Int) (h : ∀ z ∈ zs, (Lit.int .u8 z).wf = true) : zs.map (Value.int .u8) = (zs.map fun z => UInt8.ofNat z.toNat).map byt := by
  rw [List.map_map]
  refine List.map_congr_left fun z hz => ?_
  have hb := wf_byte (h z hz)
  simp only [Function.comp, byt]
  rw [UInt8.toNat_ofNat', Nat.mod_eq_of_lt (by omega)]
  congr 1
  omega

set_option maxRecDepth 100000 in
/-- A key that came in. -/
theorem key_of {H : Type} {enc : TypeId × Value → H} {W : World} {base : Nat} {v : Value} {d : DataW H} {p : List MemPlace} (hv : Value.okWide Tryd.prog W .any base 23 v) (h : ∃ m, DataW.trod enc Tryd.prog W 0 (fun _ => true) true m 23 v.cells.toList = some (d, p)) :
    ∃ k : List UInt8, k.length = 32 ∧ v = .agg (k.map byt).toArray := by
  simp only [Value.okWide, u23] at hv
  obtain ⟨cs, rfl, _, _⟩ := hv
  obtain ⟨fuel, hf⟩ := h
  obtain ⟨zs, hl, hc, hw⟩ := row_of_trod u23 Tryd.underlying5 cells5 cells23 hf
  refine ⟨zs.map fun z => UInt8.ofNat z.toNat, by simp [hl], ?_⟩
  rw [← bytes_row zs hw, ← hc]
  simp [Value.cells]
end Row
end Go.Proofs.YtoceepmehmacbaaDoor

set_option linter.unusedVariables false
set_option linter.unusedSimpArgs false
namespace Go.Proofs.YtoceepmehmacbaaDoor
open Go.RowKit

theorem bt {a b c : World} (h : Below a.heap.size a b) (k : Below b.heap.size b c) : Below a.heap.size a c := h.trans (k.mono h.size)
theorem bf {a b c : World} {q : Nat} (h : Below a.heap.size a b) (f : Fx (fun k => k = q) b c) (hq : a.heap.size ≤ q) : Below a.heap.size a c :=
  h.trans (f.below (fun k hk e => by have e : k = q := e; omega) h.size)
/-- Levels by a property. -/
def SR (R : World → Prop) (l : Nat) (W : World) : Prop := l = 0 ∨ R W
theorem sr_anti (R : World → Prop) (m n : Nat) (W : World) (h : m ≤ n) (k : SR R n W) : SR R m W := by
  rcases k with k | k
  · exact .inl (by omega)
  · exact .inr k
theorem sr_of {R : World → Prop} {W : World} {l : Nat} {C : World → Prop} (h : SZ (SR R) 0 (l + 1) C W) : R W := by
  rcases h with h | h
  · cases h
  · exact h
theorem sr0 {R C : World → Prop} : ∀ W, C W → SZ (SR R) 0 0 C W := fun _ _ => .inl rfl
end Go.Proofs.YtoceepmehmacbaaDoor

namespace Go.Proofs.YtoceepmehmacbaaDoor
open Go.RowKit

/-- An equation that the walk does not look into. -/
structure Lk {α : Type} (a b : α) : Prop where
  h : a = b

/-- The blocks of the document's 'bytesOf'. -/
structure Bo (w x : World) (s : List (BitVec 32)) (L : List UInt8) : Prop where
  st : Blk x w.heap.size (wvs s) 117
  re : Blk x (w.heap.size + 1) (z32.map byt) 22
  bl : Blk x (w.heap.size + 1 + 1) (L.map byt) 22
  be : Below w.heap.size w x
end Go.Proofs.YtoceepmehmacbaaDoor

namespace Go.Proofs.YtoceepmehmacbaaDoor
open Go.RowKit

/-- The tail of the padded message, from its end. -/
def tl (x : Nat) : Nat → List UInt8
  | 0 => List.replicate 8 0
  | j + 1 => (tl x j).set (7 - j) (UInt8.ofNat (x / 256 ^ j))
/-- What is left of the number. -/
def nq (x j : Nat) : Int := ((x / 256 ^ j : Nat) : Int)
/-- The padded bytes so far, and the tail. -/
structure Pd (w x : World) (v : Value) (d : Nat) (M L : List UInt8) : Prop where
  ow : Own x w.heap.size v M
  bl : Blk x d (L.map byt) 148
  be : Below w.heap.size w x
  ld : w.heap.size ≤ d
  ne : ∀ k, v.ownBlock = some k → k ≠ d
end Go.Proofs.YtoceepmehmacbaaDoor

namespace Go.Proofs.YtoceepmehmacbaaDoor
open Go.RowKit

/-- The state of the document's 'Sum' at d, beside the padded bytes and the result. -/
structure Rs (w x : World) (d : Nat) (S : List (BitVec 32)) (PM : List UInt8) (v : Value) : Prop where
  re : Blk x w.heap.size (z32.map byt) 22
  st : Blk x d (wvs S) 117
  ha : Has x v PM
  be : Below w.heap.size w x
  ld : w.heap.size < d
  ne : PM = [] ∨ v.ownBlock ≠ some d
end Go.Proofs.YtoceepmehmacbaaDoor

namespace Go.Proofs.YtoceepmehmacbaaDoor
open Go.RowKit

theorem idx24 (ad : Addr) (n cap m : Nat) (h : m < n) (W : World) : (Instr.indexAt 95 (.slice (some ad) n cap) (.int .i64 (m : Int))).run Tryd.prog W = .ok (.pointer (some (ad.add m))) W := by
  have hm : (m : Int) < (n : Int) := by omega
  go_simp

end Go.Proofs.YtoceepmehmacbaaDoor

namespace Go.Proofs.YtoceepmehmacbaaDoor
open Go.RowKit

end Go.Proofs.YtoceepmehmacbaaDoor

namespace Go.Proofs.YtoceepmehmacbaaDoor
open Go.RowKit

/-- The result's place and the first digest's. -/
structure Mg (w x : World) (r d : Nat) (D : List UInt8) : Prop where
  br : Blk x r (z32.map byt) 22
  bd : Blk x d (D.map byt) 22
  be : Below w.heap.size w x
  lr : w.heap.size ≤ r
end Go.Proofs.YtoceepmehmacbaaDoor

namespace Go.Proofs.YtoceepmehmacbaaDoor
open Go.RowKit

theorem Fx.grown {S : Nat → Prop} {w w' : World} {row : Option Nat} (hg : w.grownBy w' row) (h : ∀ k, row = some k → S k) : Fx S w w' :=
  ⟨hg.os, hg.tape, hg.output, hg.size, fun k hk hs => hg.block k hk (fun e => hs (h k e.symm))⟩

/-- The document's bytes so far. -/
structure Rk (w x : World) (vo vt : Value) (L T : List UInt8) : Prop where
  ow : Own x w.heap.size vo L
  ha : Has x vt T
  be : Below w.heap.size w x

end Go.Proofs.YtoceepmehmacbaaDoor

set_option linter.unusedVariables false
set_option linter.unusedSimpArgs false
namespace Go.Proofs.YtoceepmehmacbaaDoor
open Go.RowKit

theorem int_lt_d (a b : Int) (W : World) (x y : Operand) : (do eqGuard .lss 3 x y (.int .i64 a) (.int .i64 b); binOp .lss 3 (.int .i64 a) (.int .i64 b) : Sem Value).run Tryd.prog W = .ok (.bool (decide (a < b))) W := by
  by_cases h : a < b
  · rw [decide_eq_true h]; exact int_lt_t h W x y
  · rw [decide_eq_false h]; exact int_lt_f h W x y
theorem int_eq_d {t : TypeId} (a b : Int) (W : World) (x y : Operand) : (do eqGuard .eql t x y (.int .i64 a) (.int .i64 b); binOp .eql t (.int .i64 a) (.int .i64 b) : Sem Value).run Tryd.prog W = .ok (.bool (decide (a = b))) W := by
  by_cases h : a = b
  · rw [decide_eq_true h]; exact int_eq_t h W x y
  · rw [decide_eq_false h]; exact int_eq_f h W x y
theorem int_ne_d {t : TypeId} (a b : Int) (W : World) (x y : Operand) : (do eqGuard .neq t x y (.int .i64 a) (.int .i64 b); binOp .neq t (.int .i64 a) (.int .i64 b) : Sem Value).run Tryd.prog W = .ok (.bool (decide (¬ a = b))) W := by
  by_cases h : a = b
  · rw [decide_eq_false (by simpa using h)]; exact int_ne_f h W x y
  · rw [decide_eq_true h]; exact int_ne_t h W x y
/-- A record's value: its table, its slices and what they hold. -/
theorem idx34 (ad : Addr) (n cap m : Nat) (h : m < n) (W : World) : (Instr.indexAt 40 (.slice (some ad) n cap) (.int .i64 (m : Int))).run Tryd.prog W = .ok (.pointer (some (ad.add m))) W := by
  have hm : (m : Int) < (n : Int) := by omega
  go_simp
theorem idxK (q m : Nat) (h : m < 32) (W : World) : (Instr.indexAt 23 (.pointer (some ⟨q, 0, none⟩)) (.int .i64 (m : Int))).run Tryd.prog W = .ok (.pointer (some ⟨q, m, none⟩)) W := by
  have hm : (m : Int) < 32 := by omega
  go_simp
  try simp
  try rw [add_plain]
theorem st5 {w : World} {ad : Addr} {v0 : Value} (u : UInt8) (hc : w.cell? ad = some v0) (hf : w.frozen? ad = false) : (Instr.storeAt 5 (.pointer (some ad)) (byt u)).run Tryd.prog w = .ok () (w.setCell ad (byt u)) := by
  unfold byt
  go_simp
/-- The tables lie there. -/
structure St3 (w : World) : Prop where
  k : Kst w
  r : Rst w
  b : Bst w
end Go.Proofs.YtoceepmehmacbaaDoor

set_option linter.unusedVariables false
set_option linter.unusedSimpArgs false
namespace Go.Proofs.YtoceepmehmacbaaDoor
open Go.RowKit

end Go.Proofs.YtoceepmehmacbaaDoor
