import Derived.Test.YtobfebpinkikdaaHa
import Derived.Laws.StructEq
import Derived.ChangeKeysEq
set_option linter.unusedVariables false
set_option linter.unusedSimpArgs false
namespace Go.Proofs.Ytobfebpinkikdaa
open Go.RowKit

def z32 : List UInt8 := List.replicate 32 0
def z16 : List UInt8 := List.replicate 16 0
/-- A key as a value. -/
def kv (K : List UInt8) : Value := .agg (K.map byt).toArray
def u32v (n : Nat) : Value := .int .u32 (n : Int)
structure Hl where
  id : List UInt8
  once : List UInt8
  pre : Nat
structure Hl.ok (h : Hl) : Prop where
  i : h.id.length = 32
  o : h.once.length = 32
  p : h.pre < 4294967296
def Hl.cs (h : Hl) : List Value := h.id.map byt ++ (h.once.map byt ++ [u32v h.pre])
def Hl.z : Hl := ⟨z32, z32, 0⟩
theorem Hl.z_ok : Hl.z.ok := ⟨rfl, rfl, by decide⟩
structure Hd where
  sid : List UInt8
  turn : Nat
  key : List UInt8
  prev : Nat
  n : Nat
structure Hd.ok (h : Hd) : Prop where
  s : h.sid.length = 16
  t : h.turn < 4294967296
  k : h.key.length = 32
  p : h.prev < 4294967296
  n : h.n < 4294967296
def Hd.cs (h : Hd) : List Value := h.sid.map byt ++ ([u32v h.turn] ++ (h.key.map byt ++ ([u32v h.prev] ++ [u32v h.n])))
def Hd.z : Hd := ⟨z16, 0, z32, 0, 0⟩
theorem Hd.z_ok : Hd.z.ok := ⟨rfl, by decide, rfl, by decide, by decide⟩
structure Pk where
  k : Int
  hl : Hl
  hd : Hd
  bv : Value
structure Pk.ok (p : Pk) : Prop where
  l : p.hl.ok
  d : p.hd.ok
def Pk.cs (p : Pk) : List Value := [.int .i64 p.k] ++ (p.hl.cs ++ (p.hd.cs ++ [p.bv]))
def Pk.z : Pk := ⟨0, Hl.z, Hd.z, .slice none 0 0⟩
theorem Pk.z_ok : Pk.z.ok := ⟨Hl.z_ok, Hd.z_ok⟩
structure Of where
  id : List UInt8
  pre : Nat
  key : List UInt8
structure Of.ok (o : Of) : Prop where
  i : o.id.length = 32
  p : o.pre < 4294967296
  k : o.key.length = 32
def Of.cs (o : Of) : List Value := o.id.map byt ++ ([u32v o.pre] ++ o.key.map byt)
def Of.z : Of := ⟨z32, 0, z32⟩
theorem Of.z_ok : Of.z.ok := ⟨rfl, by decide, rfl⟩
theorem Hl.len {h : Hl} (k : h.ok) : h.cs.length = 65 := by simp [Hl.cs, k.i, k.o]
theorem Hd.len {h : Hd} (k : h.ok) : h.cs.length = 51 := by simp [Hd.cs, k.s, k.k]
theorem Pk.len {p : Pk} (k : p.ok) : p.cs.length = 118 := by simp [Pk.cs, Hl.len k.l, Hd.len k.d]
theorem Of.len {o : Of} (k : o.ok) : o.cs.length = 65 := by simp [Of.cs, k.i, k.k]
def Hl.v (h : Hl) : Value := .agg h.cs.toArray
def Hd.v (h : Hd) : Value := .agg h.cs.toArray
def Pk.v (p : Pk) : Value := .agg p.cs.toArray
def Of.v (o : Of) : Value := .agg o.cs.toArray
section
variable {w : World} {q o : Nat} {cs a m b : List Value} {t : TypeId}
theorem Blk.range (hb : Blk w q cs t) (hc : cs = a ++ (m ++ b)) (ho : a.length = o) : w.rangeAt q o m := fun j v hj => by
  have hl := (List.getElem?_eq_some_iff.1 hj).1
  rw [hb.cell, hc, List.getElem?_append_right (by omega), ho, Nat.add_sub_cancel_left, List.getElem?_append_left hl]
  exact hj
theorem Blk.ldA (hb : Blk w q cs t) {ty : TypeId} {d : TypeDesc} (hu : Try.prog.underlying ty = some d) (hd : d.isRow = true) (hi : (Try.prog.info? ty).map (·.size) = some m.length) (hc : cs = a ++ (m ++ b)) (ho : a.length = o) : (Instr.loadAt ty (.pointer (some ⟨q, o, none⟩))).run Try.prog w = .ok (.agg m.toArray) w :=
  run_loadAt_mid w q o ty m d (hb.range hc ho) hu hd hi
theorem Blk.stA (hb : Blk w q cs t) {ty : TypeId} {vs : List Value} (hi : (Try.prog.info? ty).map (·.size) = some vs.length) (h1 : vs.toArray.all (·.oneCell') = true) (hc : cs = a ++ (m ++ b)) (ho : a.length = o) (hm : m.length = vs.length) : ∃ w', (Instr.storeAt ty (.pointer (some ⟨q, o, none⟩)) (.agg vs.toArray)).run Try.prog w = .ok () w' ∧ Blk w' q (a ++ (vs ++ b)) t ∧ Fx (fun k => k = q) w w' := by
  have hl : o + vs.length ≤ cs.length := by rw [hc, List.length_append, List.length_append]; omega
  refine ⟨_, run_storeAt_mid w q o ty vs.toArray (fun j hj => ⟨?_, hb.frozen _⟩) (by rw [List.size_toArray]; exact hi) h1, ?_, Fx.setCells (S := fun k => k = q) q rfl _ _ _⟩
  · rw [List.size_toArray] at hj
    rw [hb.cell, List.getElem?_eq_getElem (by omega)]; rfl
  · have := Blk.setCells vs o w cs hb hl
    have e : cs.take o ++ vs ++ cs.drop (o + vs.length) = a ++ (vs ++ b) := by
      rw [hc, ← ho, List.take_left, ← hm, ← List.drop_drop, List.drop_left, List.drop_left, List.append_assoc]
    rw [e] at this
    exact this
theorem Blk.st1 (hb : Blk w q cs t) {x : Value} (hc : cs = a ++ ([x] ++ b)) (ho : a.length = o) (v : Value) : Blk (w.setCell ⟨q, o, none⟩ v) q (a ++ ([v] ++ b)) t := by
  have := hb.set o v
  rw [hc] at this
  rw [List.set_append_right _ _ (by omega), ho, Nat.sub_self] at this
  exact this
theorem Blk.at1 (hb : Blk w q cs t) {x : Value} (hc : cs = a ++ ([x] ++ b)) (ho : a.length = o) : w.cell? ⟨q, o, none⟩ = some x := by
  rw [hb.cell, hc, List.getElem?_append_right (by omega), ho, Nat.sub_self]; rfl
theorem Blk.ldU (hb : Blk w q cs t) {n : Nat} (hc : cs = a ++ ([u32v n] ++ b)) (ho : a.length = o) : (Instr.loadAt 24 (.pointer (some ⟨q, o, none⟩))).run Try.prog w = .ok (u32v n) w := by
  have h := hb.at1 hc ho
  unfold u32v at *
  go_simp
theorem Blk.stU (hb : Blk w q cs t) {x : Value} (hc : cs = a ++ ([x] ++ b)) (ho : a.length = o) (n : Nat) : ∃ w', (Instr.storeAt 24 (.pointer (some ⟨q, o, none⟩)) (u32v n)).run Try.prog w = .ok () w' ∧ Blk w' q (a ++ ([u32v n] ++ b)) t ∧ Fx (fun k => k = q) w w' := by
  have h := hb.at1 hc ho
  have hf := hb.frozen o
  refine ⟨w.setCell ⟨q, o, none⟩ (u32v n), ?_, hb.st1 hc ho _, Fx.setCell (S := fun k => k = q) _ _ _ _ rfl⟩
  unfold u32v
  go_simp
theorem Blk.stI3 (hb : Blk w q cs t) {x : Value} (hc : cs = a ++ ([x] ++ b)) (ho : a.length = o) (n : Int) : ∃ w', (Instr.storeAt 3 (.pointer (some ⟨q, o, none⟩)) (.int .i64 n)).run Try.prog w = .ok () w' ∧ Blk w' q (a ++ ([.int .i64 n] ++ b)) t ∧ Fx (fun k => k = q) w w' := by
  have h := hb.at1 hc ho
  have hf := hb.frozen o
  refine ⟨w.setCell ⟨q, o, none⟩ (.int .i64 n), ?_, hb.st1 hc ho _, Fx.setCell (S := fun k => k = q) _ _ _ _ rfl⟩
  go_simp
theorem Blk.stB (hb : Blk w q cs t) {x : Value} (hc : cs = a ++ ([x] ++ b)) (ho : a.length = o) (v : Value) (hv : ∃ ao n c, v = .slice ao n c) : ∃ w', (Instr.storeAt 31 (.pointer (some ⟨q, o, none⟩)) v).run Try.prog w = .ok () w' ∧ Blk w' q (a ++ ([v] ++ b)) t ∧ Fx (fun k => k = q) w w' := by
  obtain ⟨ao, n, c, rfl⟩ := hv
  have h := hb.at1 hc ho
  have hf := hb.frozen o
  refine ⟨w.setCell ⟨q, o, none⟩ (.slice ao n c), ?_, hb.st1 hc ho _, Fx.setCell (S := fun k => k = q) _ _ _ _ rfl⟩
  go_simp
theorem Blk.has (hb : Blk w q cs t) {K : List UInt8} (hc : cs = a ++ (K.map byt ++ b)) (ho : a.length = o) (c : Nat) (hk : K.length ≤ c) : Has w (.slice (some ⟨q, o, none⟩) K.length c) K :=
  .inr ⟨⟨q, o, none⟩, c, rfl, hk, fun i u hu => by
    rw [Addr.add_mid]
    exact hb.range hc ho i (byt u) (by rw [List.getElem?_map, hu]; rfl)⟩
end
theorem f26_0 (q o : Nat) (W : World) : (Instr.fieldAt 26 (.pointer (some ⟨q, o, none⟩)) 0).run Try.prog W = .ok (.pointer (some ⟨q, o + 0, none⟩)) W := by
  go_simp
  try simp
  try rw [Addr.add_mid]
theorem f26_1 (q o : Nat) (W : World) : (Instr.fieldAt 26 (.pointer (some ⟨q, o, none⟩)) 1).run Try.prog W = .ok (.pointer (some ⟨q, o + 32, none⟩)) W := by
  go_simp
  try simp
  try rw [Addr.add_mid]
theorem f26_2 (q o : Nat) (W : World) : (Instr.fieldAt 26 (.pointer (some ⟨q, o, none⟩)) 2).run Try.prog W = .ok (.pointer (some ⟨q, o + 64, none⟩)) W := by
  go_simp
  try simp
  try rw [Addr.add_mid]
theorem f30_0 (q o : Nat) (W : World) : (Instr.fieldAt 30 (.pointer (some ⟨q, o, none⟩)) 0).run Try.prog W = .ok (.pointer (some ⟨q, o + 0, none⟩)) W := by
  go_simp
  try simp
  try rw [Addr.add_mid]
theorem f30_1 (q o : Nat) (W : World) : (Instr.fieldAt 30 (.pointer (some ⟨q, o, none⟩)) 1).run Try.prog W = .ok (.pointer (some ⟨q, o + 16, none⟩)) W := by
  go_simp
  try simp
  try rw [Addr.add_mid]
theorem f30_2 (q o : Nat) (W : World) : (Instr.fieldAt 30 (.pointer (some ⟨q, o, none⟩)) 2).run Try.prog W = .ok (.pointer (some ⟨q, o + 17, none⟩)) W := by
  go_simp
  try simp
  try rw [Addr.add_mid]
theorem f30_3 (q o : Nat) (W : World) : (Instr.fieldAt 30 (.pointer (some ⟨q, o, none⟩)) 3).run Try.prog W = .ok (.pointer (some ⟨q, o + 49, none⟩)) W := by
  go_simp
  try simp
  try rw [Addr.add_mid]
theorem f30_4 (q o : Nat) (W : World) : (Instr.fieldAt 30 (.pointer (some ⟨q, o, none⟩)) 4).run Try.prog W = .ok (.pointer (some ⟨q, o + 50, none⟩)) W := by
  go_simp
  try simp
  try rw [Addr.add_mid]
theorem f33_0 (q o : Nat) (W : World) : (Instr.fieldAt 33 (.pointer (some ⟨q, o, none⟩)) 0).run Try.prog W = .ok (.pointer (some ⟨q, o + 0, none⟩)) W := by
  go_simp
  try simp
  try rw [Addr.add_mid]
theorem f33_1 (q o : Nat) (W : World) : (Instr.fieldAt 33 (.pointer (some ⟨q, o, none⟩)) 1).run Try.prog W = .ok (.pointer (some ⟨q, o + 1, none⟩)) W := by
  go_simp
  try simp
  try rw [Addr.add_mid]
theorem f33_2 (q o : Nat) (W : World) : (Instr.fieldAt 33 (.pointer (some ⟨q, o, none⟩)) 2).run Try.prog W = .ok (.pointer (some ⟨q, o + 66, none⟩)) W := by
  go_simp
  try simp
  try rw [Addr.add_mid]
theorem f33_3 (q o : Nat) (W : World) : (Instr.fieldAt 33 (.pointer (some ⟨q, o, none⟩)) 3).run Try.prog W = .ok (.pointer (some ⟨q, o + 117, none⟩)) W := by
  go_simp
  try simp
  try rw [Addr.add_mid]
theorem f42_0 (q o : Nat) (W : World) : (Instr.fieldAt 42 (.pointer (some ⟨q, o, none⟩)) 0).run Try.prog W = .ok (.pointer (some ⟨q, o + 0, none⟩)) W := by
  go_simp
  try simp
  try rw [Addr.add_mid]
theorem f42_1 (q o : Nat) (W : World) : (Instr.fieldAt 42 (.pointer (some ⟨q, o, none⟩)) 1).run Try.prog W = .ok (.pointer (some ⟨q, o + 32, none⟩)) W := by
  go_simp
  try simp
  try rw [Addr.add_mid]
theorem f42_2 (q o : Nat) (W : World) : (Instr.fieldAt 42 (.pointer (some ⟨q, o, none⟩)) 2).run Try.prog W = .ok (.pointer (some ⟨q, o + 33, none⟩)) W := by
  go_simp
  try simp
  try rw [Addr.add_mid]
theorem f60_0 (q o : Nat) (W : World) : (Instr.fieldAt 60 (.pointer (some ⟨q, o, none⟩)) 0).run Try.prog W = .ok (.pointer (some ⟨q, o + 0, none⟩)) W := by
  go_simp
  try simp
  try rw [Addr.add_mid]
theorem f60_1 (q o : Nat) (W : World) : (Instr.fieldAt 60 (.pointer (some ⟨q, o, none⟩)) 1).run Try.prog W = .ok (.pointer (some ⟨q, o + 1, none⟩)) W := by
  go_simp
  try simp
  try rw [Addr.add_mid]
theorem f60_2 (q o : Nat) (W : World) : (Instr.fieldAt 60 (.pointer (some ⟨q, o, none⟩)) 2).run Try.prog W = .ok (.pointer (some ⟨q, o + 119, none⟩)) W := by
  go_simp
  try simp
  try rw [Addr.add_mid]
theorem f60_3 (q o : Nat) (W : World) : (Instr.fieldAt 60 (.pointer (some ⟨q, o, none⟩)) 3).run Try.prog W = .ok (.pointer (some ⟨q, o + 184, none⟩)) W := by
  go_simp
  try simp
  try rw [Addr.add_mid]
theorem u23 : Try.prog.underlying 23 = some (.array 32 5) := by kernel_rfl
theorem u28 : Try.prog.underlying 28 = some (.array 16 5) := by kernel_rfl
theorem i23 {K : List UInt8} (h : K.length = 32) : (Try.prog.info? 23).map (·.size) = some (K.map byt).length := by rw [List.length_map, h]; kernel_rfl
theorem i28 {K : List UInt8} (h : K.length = 16) : (Try.prog.info? 28).map (·.size) = some (K.map byt).length := by rw [List.length_map, h]; kernel_rfl
theorem i26 {h : Hl} (k : h.ok) : (Try.prog.info? 26).map (·.size) = some h.cs.length := by rw [Hl.len k]; kernel_rfl
theorem i30 {h : Hd} (k : h.ok) : (Try.prog.info? 30).map (·.size) = some h.cs.length := by rw [Hd.len k]; kernel_rfl
theorem i33 {p : Pk} (k : p.ok) : (Try.prog.info? 33).map (·.size) = some p.cs.length := by rw [Pk.len k]; kernel_rfl
theorem i42 {o : Of} (k : o.ok) : (Try.prog.info? 42).map (·.size) = some o.cs.length := by rw [Of.len k]; kernel_rfl
theorem u26 : ∃ d, Try.prog.underlying 26 = some d ∧ d.isRow = true := ⟨_, Try.underlying26, rfl⟩
theorem u30 : ∃ d, Try.prog.underlying 30 = some d ∧ d.isRow = true := ⟨_, Try.underlying30, rfl⟩
theorem u33 : ∃ d, Try.prog.underlying 33 = some d ∧ d.isRow = true := ⟨_, Try.underlying33, rfl⟩
theorem u42 : ∃ d, Try.prog.underlying 42 = some d ∧ d.isRow = true := ⟨_, Try.underlying42, rfl⟩
theorem zv23 (w : World) : (zeroValue 23).run Try.prog w = .ok (kv z32) w := (zero_of_info (show (Try.prog.info? 23).map (fun i => (i.zero, i.size)) = some (some (kv z32), 32) by kernel_rfl)).1 w
theorem zv26 (w : World) : (zeroValue 26).run Try.prog w = .ok Hl.z.v w := (zero_of_info (show (Try.prog.info? 26).map (fun i => (i.zero, i.size)) = some (some Hl.z.v, 65) by kernel_rfl)).1 w
theorem zv30 (w : World) : (zeroValue 30).run Try.prog w = .ok Hd.z.v w := (zero_of_info (show (Try.prog.info? 30).map (fun i => (i.zero, i.size)) = some (some Hd.z.v, 51) by kernel_rfl)).1 w
theorem zv33 (w : World) : (zeroValue 33).run Try.prog w = .ok Pk.z.v w := (zero_of_info (show (Try.prog.info? 33).map (fun i => (i.zero, i.size)) = some (some Pk.z.v, 118) by kernel_rfl)).1 w
theorem zv42 (w : World) : (zeroValue 42).run Try.prog w = .ok Of.z.v w := (zero_of_info (show (Try.prog.info? 42).map (fun i => (i.zero, i.size)) = some (some Of.z.v, 65) by kernel_rfl)).1 w
theorem bd23 (W : World) : (Instr.build 23 ([] : List (Nat × Value)).toArray).run Try.prog W = .ok (kv z32) W := by kernel_rfl
theorem bd26 (W : World) : (Instr.build 26 ([] : List (Nat × Value)).toArray).run Try.prog W = .ok Hl.z.v W := by kernel_rfl
theorem bd30 (W : World) : (Instr.build 30 ([] : List (Nat × Value)).toArray).run Try.prog W = .ok Hd.z.v W := by kernel_rfl
theorem bd33 (W : World) : (Instr.build 33 ([] : List (Nat × Value)).toArray).run Try.prog W = .ok Pk.z.v W := by kernel_rfl
theorem bd42 (W : World) : (Instr.build 42 ([] : List (Nat × Value)).toArray).run Try.prog W = .ok Of.z.v W := by kernel_rfl
theorem box_any (t : TypeId) (cs : List Value) (w : World) : ∃ w1 q, (Instr.box t (.agg cs.toArray)).run Try.prog w = .ok (.pointer (some ⟨q, 0, none⟩)) w1 ∧ Blk w1 q cs t ∧ Below w.heap.size w w1 ∧ q = w.heap.size :=
  ⟨_, _, run_boxR t _ w _ rfl, Blk.new _ _ _, below_new _ _, rfl⟩
theorem new_any {t : TypeId} {cs : List Value} (hz : ∀ w, (zeroValue t).run Try.prog w = .ok (.agg cs.toArray) w) (w : World) : ∃ w1 q, (Instr.alloc t true (.tuple #[])).run Try.prog w = .ok (.pointer (some ⟨q, 0, none⟩)) w1 ∧ Blk w1 q cs t ∧ Below w.heap.size w w1 ∧ q = w.heap.size :=
  ⟨_, _, run_newR t _ hz w _ rfl, Blk.new _ _ _, below_new _ _, rfl⟩
theorem byts_one' (K : List UInt8) : (K.map byt).toArray.all (·.oneCell') = true := all_oneCell_toArray (fun v hv => by
  obtain ⟨u, _, rfl⟩ := List.mem_map.1 hv; rfl)
theorem one_byts (K : List UInt8) : ∀ v ∈ K.map byt, v.oneCell' = true := fun v hv => by
  obtain ⟨u, _, rfl⟩ := List.mem_map.1 hv; rfl
theorem Hl.one' (h : Hl) : ∀ v ∈ h.cs, v.oneCell' = true := fun v hv => by
  simp only [Hl.cs, List.mem_append, List.mem_singleton] at hv
  rcases hv with hv | hv | rfl
  · exact one_byts _ v hv
  · exact one_byts _ v hv
  · rfl
theorem Hd.one' (h : Hd) : ∀ v ∈ h.cs, v.oneCell' = true := fun v hv => by
  simp only [Hd.cs, List.mem_append, List.mem_singleton] at hv
  rcases hv with hv | rfl | hv | rfl | rfl
  · exact one_byts _ v hv
  · rfl
  · exact one_byts _ v hv
  · rfl
  · rfl
theorem Hl.one (h : Hl) : h.cs.toArray.all (·.oneCell') = true := all_oneCell_toArray h.one'
theorem Hd.one (h : Hd) : h.cs.toArray.all (·.oneCell') = true := all_oneCell_toArray h.one'
theorem Of.one (o : Of) : o.cs.toArray.all (·.oneCell') = true := all_oneCell_toArray (fun v hv => by
  simp only [Of.cs, List.mem_append, List.mem_singleton] at hv
  rcases hv with hv | rfl | hv
  · exact one_byts _ v hv
  · rfl
  · exact one_byts _ v hv)
theorem Pk.one (p : Pk) (hb : ∃ ao n c, p.bv = .slice ao n c) : p.cs.toArray.all (·.oneCell') = true := all_oneCell_toArray (fun v hv => by
  obtain ⟨_, _, _, e⟩ := hb
  simp only [Pk.cs, List.mem_append, List.mem_singleton] at hv
  rcases hv with rfl | hv | hv | rfl
  · rfl
  · exact p.hl.one' v hv
  · exact p.hd.one' v hv
  · rw [e]; rfl)
theorem sl23 (q o : Nat) (W : World) : (Instr.sliceAt 23 (.pointer (some ⟨q, o, none⟩)) none none none).run Try.prog W = .ok (.slice (some ⟨q, o, none⟩) 32 32) W := by
  go_simp
  try simp
  try rw [Addr.add_mid]
  try simp
theorem sl28 (q o : Nat) (W : World) : (Instr.sliceAt 28 (.pointer (some ⟨q, o, none⟩)) none none none).run Try.prog W = .ok (.slice (some ⟨q, o, none⟩) 16 16) W := by
  go_simp
  try simp
  try rw [Addr.add_mid]
  try simp
end Go.Proofs.Ytobfebpinkikdaa
