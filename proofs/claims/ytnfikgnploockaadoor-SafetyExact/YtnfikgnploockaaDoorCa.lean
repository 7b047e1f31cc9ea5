import Derived.Test.YtnfikgnploockaaDoorOz
set_option linter.unusedVariables false
set_option linter.unusedSimpArgs false
namespace Go.Proofs.YtnfikgnploockaaDoor
open Go.RowKit

section
variable {P : Program} {n : Nat} {ops : Array Oper} {Q : Exit → Act → World → Prop} {i : Nat} {ty : TypeId} {ps : String} {af : Array Edge} {gd : Option (Nat × Bool)} {r : List Oper} {e : List (Nat × Value)} {w w' : World}
theorem WL.slice0 {t : TypeId} {x : Operand} {u v : Value} (hw : wantE ops e ⟨some i, .slice t x none none none, ty, ps, af, gd⟩ = some true) (hi : decide (i < n) = true) (hx : evE e x = some u) (hr : (Instr.sliceAt t u none none none).run P w = .ok v w) (k : WL P n ops Q r ((i, v) :: e) w) : WL P n ops Q (⟨some i, .slice t x none none none, ty, ps, af, gd⟩ :: r) e w :=
  WL.op i v hw rfl hi (fun a ha => by simp [execOp, ha.ev hx, hr, Result.andThen]) k
theorem WL.max {x y : Operand} {ts : Array TypeId} {u u' v : Value} (hw : wantE ops e ⟨some i, .call { callee := .builtin .max, args := #[x, y], argTypes := ts }, ty, ps, af, gd⟩ = some true) (hi : decide (i < n) = true) (hx : evE e x = some u) (hy : evE e y = some u') (hr : (Builtin.max_ ts ty #[u, u']).run P w = .ok v w) (k : WL P n ops Q r ((i, v) :: e) w) : WL P n ops Q (⟨some i, .call { callee := .builtin .max, args := #[x, y], argTypes := ts }, ty, ps, af, gd⟩ :: r) e w :=
  WL.op i v hw rfl hi (fun a ha => by simp [execOp, resolve, invoke, builtin, ha.ev hx, ha.ev hy, hr, Result.andThen]) k
end
section
variable {P : Program} {n : Nat} {ops : Array Oper} {S : Nat → World → Prop} {K : List (Nat × Value) → (World → Prop) → Prop} {i c lv : Nat} {ty : TypeId} {ps : String} {af : Array Edge} {gd : Option (Nat × Bool)} {r : List (Oper × Nat × Nat)} {e : List (Nat × Value)} {C : World → Prop}
theorem ZE.slice0 {t : TypeId} {x : Operand} {u v : Value} (h1 : decide (c = 1) = false) (hw : wantE ops e ⟨some i, .slice t x none none none, ty, ps, af, gd⟩ = some true) (hi : decide (i < n) = true) (hx : evE e x = some u) (hc : ∀ w, C w → SZ S c lv C w) (hr : ∀ w, (Instr.sliceAt t u none none none).run P w = .ok v w) (k : wpZE P n ops S K r ((i, v) :: e) C) : wpZE P n ops S K ((⟨some i, .slice t x none none none, ty, ps, af, gd⟩, c, lv) :: r) e C :=
  ZE.val h1 hw hi hc (fun a ha W hW => by simp [execOp, ha.ev hx, hr W, Result.andThen]) k
theorem ZE.s2a {t : TypeId} {x : Operand} {u v : Value} (h1 : decide (c = 1) = false) (hw : wantE ops e ⟨some i, .sliceToArrayPointer t x, ty, ps, af, gd⟩ = some true) (hi : decide (i < n) = true) (hx : evE e x = some u) (hc : ∀ w, C w → SZ S c lv C w) (hr : ∀ w, (Instr.arrayAt t u).run P w = .ok v w) (k : wpZE P n ops S K r ((i, v) :: e) C) : wpZE P n ops S K ((⟨some i, .sliceToArrayPointer t x, ty, ps, af, gd⟩, c, lv) :: r) e C :=
  ZE.val h1 hw hi hc (fun a ha W hW => by simp [execOp, ha.ev hx, hr W, Result.andThen]) k
end
/-- A key as a value. -/
def kv (K : List UInt8) : Value := .agg (K.map byt).toArray
theorem i23 {K : List UInt8} (h : K.length = 32) : (Tryd.prog.info? 23).map (·.size) = some (K.map byt).length := by rw [List.length_map, h]; kernel_rfl
theorem i22 {K : List UInt8} (h : K.length = 32) : (Tryd.prog.info? 22).map (·.size) = some (K.map byt).length := by rw [List.length_map, h]; kernel_rfl
theorem z23 (w : World) : (zeroValue 23).run Tryd.prog w = .ok (kv z32) w := (zero_of_info (show (Tryd.prog.info? 23).map (fun i => (i.zero, i.size)) = some (some (kv z32), 32) by kernel_rfl)).1 w
theorem z22 (w : World) : (zeroValue 22).run Tryd.prog w = .ok (kv z32) w := (zero_of_info (show (Tryd.prog.info? 22).map (fun i => (i.zero, i.size)) = some (some (kv z32), 32) by kernel_rfl)).1 w
theorem bytsOne (K : List UInt8) : (K.map byt).toArray.all (·.oneCell') = true := byts_one K
theorem box23 (K : List UInt8) (w : World) : ∃ w1 q, (Instr.box 23 (kv K)).run Tryd.prog w = .ok (.pointer (some ⟨q, 0, none⟩)) w1 ∧ Blk w1 q (K.map byt) 23 ∧ Below w.heap.size w w1 ∧ q = w.heap.size :=
  ⟨_, _, run_boxR 23 _ w _ rfl, Blk.new _ _ _, below_new _ _, rfl⟩
theorem new23 (w : World) : ∃ w1 q, (Instr.alloc 23 true (.tuple #[])).run Tryd.prog w = .ok (.pointer (some ⟨q, 0, none⟩)) w1 ∧ Blk w1 q (z32.map byt) 23 ∧ Below w.heap.size w w1 ∧ q = w.heap.size :=
  ⟨_, _, run_newR 23 _ z23 w _ rfl, Blk.new _ _ _, below_new _ _, rfl⟩
theorem new22 (w : World) : ∃ w1 q, (Instr.alloc 22 true (.tuple #[])).run Tryd.prog w = .ok (.pointer (some ⟨q, 0, none⟩)) w1 ∧ Blk w1 q (z32.map byt) 22 ∧ Below w.heap.size w w1 ∧ q = w.heap.size :=
  ⟨_, _, run_newR 22 _ z22 w _ rfl, Blk.new _ _ _, below_new _ _, rfl⟩
theorem st23 {w : World} {q : Nat} {old K : List UInt8} {t : TypeId} (hb : Blk w q (old.map byt) t) (ho : old.length = 32) (hK : K.length = 32) : ∃ w', (Instr.storeAt 23 (.pointer (some ⟨q, 0, none⟩)) (kv K)).run Tryd.prog w = .ok () w' ∧ Blk w' q (K.map byt) t ∧ Fx (fun k => k = q) w w' :=
  ⟨_, run_storeR hb (i23 hK) (by rw [List.length_map, List.length_map, ho, hK]) (bytsOne K), hb.setRow _, Fx.setRow w q _ rfl⟩
theorem st22 {w : World} {q : Nat} {old K : List UInt8} {t : TypeId} (hb : Blk w q (old.map byt) t) (ho : old.length = 32) (hK : K.length = 32) : ∃ w', (Instr.storeAt 22 (.pointer (some ⟨q, 0, none⟩)) (kv K)).run Tryd.prog w = .ok () w' ∧ Blk w' q (K.map byt) t ∧ Fx (fun k => k = q) w w' :=
  ⟨_, run_storeR hb (i22 hK) (by rw [List.length_map, List.length_map, ho, hK]) (bytsOne K), hb.setRow _, Fx.setRow w q _ rfl⟩
theorem ld23 {w : World} {q : Nat} {K : List UInt8} {t : TypeId} (hb : Blk w q (K.map byt) t) (hK : K.length = 32) : (Instr.loadAt 23 (.pointer (some ⟨q, 0, none⟩))).run Tryd.prog w = .ok (kv K) w :=
  run_loadR hb (show Tryd.prog.underlying 23 = some (.array 32 5) by kernel_rfl) rfl (i23 hK)
theorem z32l : z32.length = 32 := rfl
/-- A new key. -/
theorem new1 (w : World) (K : List UInt8) (hK : K.length = 32) : ∃ q w1 w2, (Instr.alloc 23 true (.tuple #[])).run Tryd.prog w = .ok (.pointer (some ⟨q, 0, none⟩)) w1 ∧ (Instr.storeAt 23 (.pointer (some ⟨q, 0, none⟩)) (kv K)).run Tryd.prog w1 = .ok () w2 ∧ Blk w2 q (K.map byt) 23 ∧ Below w.heap.size w w2 ∧ w.heap.size ≤ q := by
  obtain ⟨w1, q, r1, b1, l1, rfl⟩ := new23 w
  obtain ⟨w2, r2, b2, f2⟩ := st23 b1 z32l hK
  exact ⟨_, w1, w2, r1, r2, b2, l1.trans (f2.below (fun k hk e => by omega) l1.size), Nat.le_refl _⟩
theorem new2 (w : World) (K L : List UInt8) (hK : K.length = 32) (hL : L.length = 32) : ∃ q p w1 w2 w3 w4, (Instr.alloc 23 true (.tuple #[])).run Tryd.prog w = .ok (.pointer (some ⟨q, 0, none⟩)) w1 ∧ (Instr.alloc 23 true (.tuple #[])).run Tryd.prog w1 = .ok (.pointer (some ⟨p, 0, none⟩)) w2 ∧
    (Instr.storeAt 23 (.pointer (some ⟨q, 0, none⟩)) (kv K)).run Tryd.prog w2 = .ok () w3 ∧ (Instr.storeAt 23 (.pointer (some ⟨p, 0, none⟩)) (kv L)).run Tryd.prog w3 = .ok () w4 ∧ Blk w4 q (K.map byt) 23 ∧ Blk w4 p (L.map byt) 23 ∧ Below w.heap.size w w4 ∧ w.heap.size ≤ q ∧ w.heap.size ≤ p := by
  obtain ⟨w1, q, r1, b1, l1, hq⟩ := new23 w
  obtain ⟨w2, p, r2, b2, l2, hp⟩ := new23 w1
  have h1 := b1.lt
  have hne : q ≠ p := by omega
  obtain ⟨w3, r3, b3, f3⟩ := st23 (b1.on l2) z32l hK
  obtain ⟨w4, r4, b4, f4⟩ := st23 (b2.fx f3 (fun e => hne e.symm)) z32l hL
  have s1 := l1.size
  have s2 := l2.size
  have s3 := f3.size
  refine ⟨q, p, w1, w2, w3, w4, r1, r2, r3, r4, b3.fx f4 hne, b4, ?_, by omega, by omega⟩
  refine l1.trans ((l2.mono s1).trans ((f3.below (fun k hk e => ?_) (by omega)).trans (f4.below (fun k hk e => ?_) (by omega))))
  · have e : k = q := e
    omega
  · have e : k = p := e
    omega
theorem sl23 (q : Nat) (W : World) : (Instr.sliceAt 23 (.pointer (some ⟨q, 0, none⟩)) none none none).run Tryd.prog W = .ok (.slice (some ⟨q, 0, none⟩) 32 32) W := by
  go_simp
  try simp
  try rw [add_plain]
theorem sl22 (q : Nat) (W : World) : (Instr.sliceAt 22 (.pointer (some ⟨q, 0, none⟩)) none none none).run Tryd.prog W = .ok (.slice (some ⟨q, 0, none⟩) 32 32) W := by
  go_simp
  try simp
  try rw [add_plain]
theorem bsl1 (b : UInt8) (w : World) : (Instr.buildSlice 27 1 [(0, .int .u8 (b.toNat : Int))].toArray).run Tryd.prog w = .ok (.slice (some ⟨w.heap.size, 0, none⟩) 1 1) (w.alloc (.cells #[byt b] 5)) := by
  go_simp
  try simp
  try rfl
theorem bsl43 (v : Value) (hv : ∃ ao n c, v = .slice ao n c) (w : World) : (Instr.buildSlice 48 1 [(0, v)].toArray).run Tryd.prog w = .ok (.slice (some ⟨w.heap.size, 0, none⟩) 1 1) (w.alloc (.cells #[v] 27)) := by
  obtain ⟨ao, n, c, rfl⟩ := hv
  go_simp
  try simp
  try rfl
def rootB : List UInt8 := [108, 101, 116, 104, 101, 32, 114, 111, 111, 116]
def rootV : List (Nat × Value) := [(0, .int .u8 108), (1, .int .u8 101), (2, .int .u8 116), (3, .int .u8 104), (4, .int .u8 101), (5, .int .u8 32), (6, .int .u8 114), (7, .int .u8 111), (8, .int .u8 111), (9, .int .u8 116)]
theorem bsl10 (w : World) : (Instr.buildSlice 27 10 rootV.toArray).run Tryd.prog w = .ok (.slice (some ⟨w.heap.size, 0, none⟩) 10 10) (w.alloc (.cells (rootB.map byt).toArray 5)) := by
  unfold rootV
  go_simp
  try simp
  try rfl
/-- The constant's bytes, marked. -/
theorem conv34 (W : World) : (Go.convert 27 27 (.slice (some ⟨W.heap.size, 0, none⟩) 10 10)).run Tryd.prog (W.alloc (.cells (rootB.map byt).toArray 5)) = .ok (.slice (some ⟨W.heap.size, 0, none⟩) 10 10) (W.alloc (.cells (rootB.map byt).toArray 5 (10, 11))) :=
  Lib.run_convert_bytes_const W 27 5 _ 10 10 Tryd.underlying27 Tryd.underlying5
theorem s2a (g o n c : Nat) (h : 32 ≤ n) (W : World) : (Instr.arrayAt 23 (.slice (some ⟨g, o, none⟩) n c)).run Tryd.prog W = .ok (.pointer (some ⟨g, o, none⟩)) W := by
  have h' : ¬ n < 32 := by omega
  unfold Instr.arrayAt
  go_simp
  try simp
theorem cutH (g : Nat) (W : World) : (Instr.sliceAt 27 (.slice (some ⟨g, 0, none⟩) 64 64) none (some (.int .i64 32)) none).run Tryd.prog W = .ok (.slice (some ⟨g, 0, none⟩) 32 64) W := by
  go_simp
  try simp
  try rw [add_plain]
theorem cutL (g : Nat) (W : World) : (Instr.sliceAt 27 (.slice (some ⟨g, 0, none⟩) 64 64) (some (.int .i64 32)) none none).run Tryd.prog W = .ok (.slice (some ⟨g, 32, none⟩) 32 32) W := by
  go_simp
  try simp
  try rw [add_plain]
end Go.Proofs.YtnfikgnploockaaDoor
