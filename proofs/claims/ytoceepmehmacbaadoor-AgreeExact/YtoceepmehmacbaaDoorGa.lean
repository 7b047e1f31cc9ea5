import Derived.Test.YtoceepmehmacbaaDoorCeG
import Derived.Laws.StructEq
import Derived.ChangeKeysEq
import Derived.Laws.Tables
set_option linter.unusedVariables false
set_option linter.unusedSimpArgs false
namespace Go.Proofs.YtoceepmehmacbaaDoor
open Go.RowKit

def z16 : List UInt8 := List.replicate 16 0
def z64k : List UInt8 := List.replicate 64 0
def u32v (n : Nat) : Value := .int .u32 (n : Int)
structure Hl where
  id : List UInt8
  once : List UInt8
  pre : Nat
structure Hl.ok (h : Hl) : Prop where
  i : h.id.length = 32
  o : h.once.length = 32
  p : h.pre < 4294967296
def Hl.cs (h : Hl) : List Value := h.id.map byt ++ (h.once.map byt ++ [u32v h.pre])
def Hl.z : Hl := ⟨z32, z32, 0⟩
theorem Hl.z_ok : Hl.z.ok := ⟨rfl, rfl, by decide⟩
structure Of where
  id : List UInt8
  pre : Nat
  key : List UInt8
structure Of.ok (o : Of) : Prop where
  i : o.id.length = 32
  p : o.pre < 4294967296
  k : o.key.length = 32
def Of.cs (o : Of) : List Value := o.id.map byt ++ ([u32v o.pre] ++ o.key.map byt)
def Of.z : Of := ⟨z32, 0, z32⟩
theorem Of.z_ok : Of.z.ok := ⟨rfl, by decide, rfl⟩
theorem Hl.len {h : Hl} (k : h.ok) : h.cs.length = 65 := by simp [Hl.cs, k.i, k.o]
theorem Of.len {o : Of} (k : o.ok) : o.cs.length = 65 := by simp [Of.cs, k.i, k.k]
def Hl.v (h : Hl) : Value := .agg h.cs.toArray
def Of.v (o : Of) : Value := .agg o.cs.toArray
section
variable {w : World} {q o : Nat} {cs a m b : List Value} {t : TypeId}
theorem Blk.range (hb : Blk w q cs t) (hc : cs = a ++ (m ++ b)) (ho : a.length = o) : w.rangeAt q o m := fun j v hj => by
  have hl := (List.getElem?_eq_some_iff.1 hj).1
  rw [hb.cell, hc, List.getElem?_append_right (by omega), ho, Nat.add_sub_cancel_left, List.getElem?_append_left hl]
  exact hj
theorem Blk.ldA (hb : Blk w q cs t) {ty : TypeId} {d : TypeDesc} (hu : Tryd.prog.underlying ty = some d) (hd : d.isRow = true) (hi : (Tryd.prog.info? ty).map (·.size) = some m.length) (hc : cs = a ++ (m ++ b)) (ho : a.length = o) : (Instr.loadAt ty (.pointer (some ⟨q, o, none⟩))).run Tryd.prog w = .ok (.agg m.toArray) w :=
  run_loadAt_mid w q o ty m d (hb.range hc ho) hu hd hi
theorem Blk.stA (hb : Blk w q cs t) {ty : TypeId} {vs : List Value} (hi : (Tryd.prog.info? ty).map (·.size) = some vs.length) (h1 : vs.toArray.all (·.oneCell') = true) (hc : cs = a ++ (m ++ b)) (ho : a.length = o) (hm : m.length = vs.length) : ∃ w', (Instr.storeAt ty (.pointer (some ⟨q, o, none⟩)) (.agg vs.toArray)).run Tryd.prog w = .ok () w' ∧ Blk w' q (a ++ (vs ++ b)) t ∧ Fx (fun k => k = q) w w' := by
  have hl : o + vs.length ≤ cs.length := by rw [hc, List.length_append, List.length_append]; omega
  refine ⟨_, run_storeAt_mid w q o ty vs.toArray (fun j hj => ⟨?_, hb.frozen _⟩) (by rw [List.size_toArray]; exact hi) h1, ?_, Fx.setCells (S := fun k => k = q) q rfl _ _ _⟩
  · rw [List.size_toArray] at hj
    rw [hb.cell, List.getElem?_eq_getElem (by omega)]; rfl
  · have := Blk.setCells vs o w cs hb hl
    have e : cs.take o ++ vs ++ cs.drop (o + vs.length) = a ++ (vs ++ b) := by
      rw [hc, ← ho, List.take_left, ← hm, ← List.drop_drop, List.drop_left, List.drop_left, List.append_assoc]
    rw [e] at this
    exact this
theorem Blk.st1 (hb : Blk w q cs t) {x : Value} (hc : cs = a ++ ([x] ++ b)) (ho : a.length = o) (v : Value) : Blk (w.setCell ⟨q, o, none⟩ v) q (a ++ ([v] ++ b)) t := by
  have := hb.set o v
  rw [hc] at this
  rw [List.set_append_right _ _ (by omega), ho, Nat.sub_self] at this
  exact this
theorem Blk.at1 (hb : Blk w q cs t) {x : Value} (hc : cs = a ++ ([x] ++ b)) (ho : a.length = o) : w.cell? ⟨q, o, none⟩ = some x := by
  rw [hb.cell, hc, List.getElem?_append_right (by omega), ho, Nat.sub_self]; rfl
theorem Blk.ldU (hb : Blk w q cs t) {n : Nat} (hc : cs = a ++ ([u32v n] ++ b)) (ho : a.length = o) : (Instr.loadAt 26 (.pointer (some ⟨q, o, none⟩))).run Tryd.prog w = .ok (u32v n) w := by
  have h := hb.at1 hc ho
  unfold u32v at *
  go_simp
theorem Blk.hasA (hb : Blk w q cs t) {K : List UInt8} (hc : cs = a ++ (K.map byt ++ b)) (ho : a.length = o) (c : Nat) (hk : K.length ≤ c) : Has w (.slice (some ⟨q, o, none⟩) K.length c) K :=
  .inr ⟨⟨q, o, none⟩, c, rfl, hk, fun i u hu => by
    rw [Addr.add_mid]
    exact hb.range hc ho i (byt u) (by rw [List.getElem?_map, hu]; rfl)⟩
end
theorem f33_0 (q o : Nat) (W : World) : (Instr.fieldAt 33 (.pointer (some ⟨q, o, none⟩)) 0).run Tryd.prog W = .ok (.pointer (some ⟨q, o + 0, none⟩)) W := by
  go_simp
  try simp
  try rw [Addr.add_mid]
theorem f33_1 (q o : Nat) (W : World) : (Instr.fieldAt 33 (.pointer (some ⟨q, o, none⟩)) 1).run Tryd.prog W = .ok (.pointer (some ⟨q, o + 32, none⟩)) W := by
  go_simp
  try simp
  try rw [Addr.add_mid]
theorem f33_2 (q o : Nat) (W : World) : (Instr.fieldAt 33 (.pointer (some ⟨q, o, none⟩)) 2).run Tryd.prog W = .ok (.pointer (some ⟨q, o + 64, none⟩)) W := by
  go_simp
  try simp
  try rw [Addr.add_mid]
theorem f28_0 (q o : Nat) (W : World) : (Instr.fieldAt 28 (.pointer (some ⟨q, o, none⟩)) 0).run Tryd.prog W = .ok (.pointer (some ⟨q, o + 0, none⟩)) W := by
  go_simp
  try simp
  try rw [Addr.add_mid]
theorem f28_1 (q o : Nat) (W : World) : (Instr.fieldAt 28 (.pointer (some ⟨q, o, none⟩)) 1).run Tryd.prog W = .ok (.pointer (some ⟨q, o + 32, none⟩)) W := by
  go_simp
  try simp
  try rw [Addr.add_mid]
theorem f28_2 (q o : Nat) (W : World) : (Instr.fieldAt 28 (.pointer (some ⟨q, o, none⟩)) 2).run Tryd.prog W = .ok (.pointer (some ⟨q, o + 33, none⟩)) W := by
  go_simp
  try simp
  try rw [Addr.add_mid]
theorem u30 : Tryd.prog.underlying 30 = some (.array 16 5) := by kernel_rfl
theorem i30 {K : List UInt8} (h : K.length = 16) : (Tryd.prog.info? 30).map (·.size) = some (K.map byt).length := by rw [List.length_map, h]; kernel_rfl
theorem i33 {h : Hl} (k : h.ok) : (Tryd.prog.info? 33).map (·.size) = some h.cs.length := by rw [Hl.len k]; kernel_rfl
theorem i28 {o : Of} (k : o.ok) : (Tryd.prog.info? 28).map (·.size) = some o.cs.length := by rw [Of.len k]; kernel_rfl
theorem u33 : ∃ d, Tryd.prog.underlying 33 = some d ∧ d.isRow = true := ⟨_, Tryd.underlying33, rfl⟩
theorem u28 : ∃ d, Tryd.prog.underlying 28 = some d ∧ d.isRow = true := ⟨_, Tryd.underlying28, rfl⟩
theorem zv33 (w : World) : (zeroValue 33).run Tryd.prog w = .ok Hl.z.v w := (zero_of_info (show (Tryd.prog.info? 33).map (fun i => (i.zero, i.size)) = some (some Hl.z.v, 65) by kernel_rfl)).1 w
theorem bd23 (W : World) : (Instr.build 23 ([] : List (Nat × Value)).toArray).run Tryd.prog W = .ok (kv z32) W := by kernel_rfl
theorem box_any (t : TypeId) (cs : List Value) (w : World) : ∃ w1 q, (Instr.box t (.agg cs.toArray)).run Tryd.prog w = .ok (.pointer (some ⟨q, 0, none⟩)) w1 ∧ Blk w1 q cs t ∧ Below w.heap.size w w1 ∧ q = w.heap.size :=
  ⟨_, _, run_boxR t _ w _ rfl, Blk.new _ _ _, below_new _ _, rfl⟩
theorem one_byts (K : List UInt8) : ∀ v ∈ K.map byt, v.oneCell' = true := fun v hv => by
  obtain ⟨u, _, rfl⟩ := List.mem_map.1 hv; rfl
theorem Hl.one' (h : Hl) : ∀ v ∈ h.cs, v.oneCell' = true := fun v hv => by
  simp only [Hl.cs, List.mem_append, List.mem_singleton] at hv
  rcases hv with hv | hv | rfl
  · exact one_byts _ v hv
  · exact one_byts _ v hv
  · rfl
theorem Hl.one (h : Hl) : h.cs.toArray.all (·.oneCell') = true := all_oneCell_toArray h.one'
theorem run_part (L : List UInt8) (i : Nat) (h : i < L.length) (W : World) : (part 5 (L.map byt).toArray (i * 1)).run Tryd.prog W = .ok (.int .u8 ((L.getD i 0).toNat : Int)) W := by
  have h1 : (L.map byt).toArray[i]? = some (.int .u8 ((L.getD i 0).toNat : Int)) := by rw [List.getElem?_toArray, byts_at L i h]
  simp only [part, Sem.run_bind, Tryd.isAgg5, Result.andThen_ok, Nat.mul_one, h1]
  simp
theorem eqItems_is (L M : List UInt8) (d : Nat) (W : World) : ∀ (is : List Nat), (∀ i ∈ is, i < L.length ∧ i < M.length) →
    (Op.eqItems (d + 1) 5 1 (L.map byt).toArray (M.map byt).toArray is).run Tryd.prog W = .ok (is.all fun i => L.getD i 0 == M.getD i 0) W
  | [], _ => by simp [Op.eqItems]
  | i :: is, h => by
    obtain ⟨h1, h2⟩ := h i (by simp)
    have he := run_equalIn_int (P := Tryd.prog) W d 5 .u8 .u8 ((L.getD i 0).toNat : Int) ((M.getD i 0).toNat : Int) Tryd.underlying5
    have ih := eqItems_is L M d W is (fun j hj => h j (by simp [hj]))
    simp only [Op.eqItems, Sem.run_bind, run_part L i h1 W, run_part M i h2 W, he, Result.andThen_ok, List.all_cons]
    generalize (is.all fun i => L.getD i 0 == M.getD i 0) = r at ih ⊢
    generalize L.getD i 0 = x
    generalize M.getD i 0 = y
    by_cases hq : x = y
    · subst hq
      simp
      exact ih
    · have : (x.toNat : Int) ≠ (y.toNat : Int) := by
        intro hh
        exact hq (UInt8.toNat_inj.1 (by omega))
      simp [hq, this]
theorem getD_ext {L M : List UInt8} {n : Nat} (h1 : L.length = n) (h2 : M.length = n) (h : ∀ i, i < n → L.getD i 0 = M.getD i 0) : L = M := by
  apply List.ext_getElem (by omega)
  intro i hi hi'
  have := h i (by omega)
  rw [List.getD_eq_getElem?_getD, List.getD_eq_getElem?_getD, List.getElem?_eq_getElem hi, List.getElem?_eq_getElem hi'] at this
  simpa using this
theorem arrD (ty : TypeId) (n : Nat) (hu : Tryd.prog.underlying ty = some (.array n 5)) (L M : List UInt8) (h1 : L.length = n) (h2 : M.length = n) (d : Nat) (W : World) : (Op.equalIn (d + 2) ty (.agg (L.map byt).toArray) (.agg (M.map byt).toArray)).run Tryd.prog W = .ok (decide (L = M)) W := by
  obtain ⟨i0, hi, _⟩ := info_parts Tryd.info5
  rw [run_equalIn_array W (d + 1) (L.map byt).toArray (M.map byt).toArray hu hi]
  have hc : Tryd.prog.cellsOf 5 = 1 := by kernel_rfl
  have key : ((List.range n).all fun i => L.getD i 0 == M.getD i 0) = decide (L = M) := by
    by_cases hq : L = M
    · subst hq
      simp
    · rw [decide_eq_false hq, List.all_eq_false]
      refine Classical.byContradiction fun hn => hq (getD_ext h1 h2 fun i hi => ?_); refine Classical.byContradiction fun hne => hn ⟨i, List.mem_range.2 hi, ?_⟩
      simpa using hne
  rw [hc, eqItems_is L M d W _ (fun i hi => by have := List.mem_range.1 hi; omega), key]
theorem eqF_nil (d : Nat) (xs ys : Array Value) (W : World) : (Op.eqFields d xs ys []).run Tryd.prog W = .ok true W := rfl
theorem eqF_cons {d : Nat} {xs ys : Array Value} {f : Field} {fs : List Field} {W : World} {a b : Value} {r r' : Bool} (hn : f.name ≠ "_") (ha : (part f.type xs f.offset).run Tryd.prog W = .ok a W) (hb : (part f.type ys f.offset).run Tryd.prog W = .ok b W) (he : (Op.equalIn d f.type a b).run Tryd.prog W = .ok r W) (ht : (Op.eqFields d xs ys fs).run Tryd.prog W = .ok r' W) : (Op.eqFields d xs ys (f :: fs)).run Tryd.prog W = .ok (r && r') W := by
  simp only [Op.eqFields, hn, ne_eq, not_false_eq_true, if_true, Sem.run_bind, ha, hb, he, Result.andThen_ok]
  cases r
  · simp
  · simp [ht]
theorem part_row {ty : TypeId} {cs a m b : List Value} {o : Nat} (hg : ∀ w, (isAgg ty).run Tryd.prog w = .ok true w) (hs : ∀ w, (sizeOf ty).run Tryd.prog w = .ok m.length w) (hc : cs = a ++ (m ++ b)) (ho : a.length = o) (W : World) : (part ty cs.toArray o).run Tryd.prog W = .ok (.agg m.toArray) W := by
  have e : cs.toArray.extract o (o + m.length) = m.toArray := by
    rw [hc, List.extract_toArray, List.extract_eq_take_drop, ← ho, List.drop_left, Nat.add_sub_cancel_left, List.take_left]
  simp only [part, Sem.run_bind, hg, Result.andThen_ok, if_true, hs, e, Sem.run_pure]
theorem part_one {ty : TypeId} {cs a b : List Value} {x : Value} {o : Nat} (hg : ∀ w, (isAgg ty).run Tryd.prog w = .ok false w) (hc : cs = a ++ ([x] ++ b)) (ho : a.length = o) (W : World) : (part ty cs.toArray o).run Tryd.prog W = .ok x W := by
  have e : cs.toArray[o]? = some x := by
    rw [List.getElem?_toArray, hc, List.getElem?_append_right (by omega), ho, Nat.sub_self]; rfl
  simp only [part, Sem.run_bind, hg, Result.andThen_ok, Bool.false_eq_true, if_false, e, Sem.run_pure]
theorem eqU (d n m : Nat) (W : World) : (Op.equalIn (d + 1) 26 (u32v n) (u32v m)).run Tryd.prog W = .ok (decide (n = m)) W := by
  unfold u32v
  rw [run_equalIn_int (P := Tryd.prog) W d 26 .u32 .u32 (n : Int) (m : Int) Tryd.underlying26]
  have key : ((n : Int) == (m : Int)) = decide (n = m) := by
    by_cases h : n = m
    · simp [h]
    · have : (n : Int) ≠ (m : Int) := by omega
      simp [h, this]
  rw [key]
theorem sz23 {K : List UInt8} (h : K.length = 32) : ∀ w, (sizeOf 23).run Tryd.prog w = .ok (K.map byt).length w := fun w => by rw [List.length_map, h]; exact Tryd.sizeOf23 w
theorem sz30 {K : List UInt8} (h : K.length = 16) : ∀ w, (sizeOf 30).run Tryd.prog w = .ok (K.map byt).length w := fun w => by rw [List.length_map, h]; exact Tryd.sizeOf30 w
instance : DecidableEq Hl := fun a b => decidable_of_iff (a.id = b.id ∧ a.once = b.once ∧ a.pre = b.pre) (by cases a; cases b; simp)
instance : DecidableEq Of := fun a b => decidable_of_iff (a.id = b.id ∧ a.pre = b.pre ∧ a.key = b.key) (by cases a; cases b; simp)
theorem eqlU (n m : Nat) (W : World) (x y : Operand) : (do eqGuard .eql 26 x y (u32v n) (.int .u32 (m : Int)); binOp .eql 26 (u32v n) (.int .u32 (m : Int)) : Sem Value).run Tryd.prog W = .ok (.bool (decide (n = m))) W := by
  unfold u32v
  go_simp
  by_cases h : n = m
  · subst h; simp
  · have : (n : Int) ≠ (m : Int) := by omega
    simp [h, this]
theorem fold_set : ∀ (vs : List Value) (off k : Nat) (cs : List Value), off + k + vs.length ≤ cs.length → (vs.zipIdx k).foldl (fun (cs : Array Value) (x : Value × Nat) => cs.setIfInBounds (off + x.2) x.1) cs.toArray = (cs.take (off + k) ++ vs ++ cs.drop (off + k + vs.length)).toArray
  | [], off, k, cs, _ => by simp
  | v :: r, off, k, cs, h => by
    rw [List.zipIdx_cons, List.foldl_cons]
    simp only [List.length_cons] at h
    have e : (cs.toArray.setIfInBounds (off + k) v) = (cs.set (off + k) v).toArray := by simp
    show (r.zipIdx (k + 1)).foldl _ (cs.toArray.setIfInBounds (off + k) v) = _
    rw [e, fold_set r off (k + 1) (cs.set (off + k) v) (by rw [List.length_set]; omega), ← Nat.add_assoc, splice_one cs (off + k) v r (by simp only [List.length_cons]; omega)]
theorem fill_one {place : Nat → Option (Nat × Nat)} {a m b vs : List Value} {i off n : Nat} {v : Value} {rest : List (Nat × Value)} (hp : place i = some (off, n)) (hv : v.cells = vs.toArray) (hn : vs.length = n) (hm : m.length = n) (ho : a.length = off) : Instr.fill place (a ++ (m ++ b)).toArray ((i, v) :: rest) = Instr.fill place (a ++ (vs ++ b)).toArray rest := by
  have h1 : ¬ (off + n > (a ++ (m ++ b)).length) := by simp; omega
  have hf := fold_set vs off 0 (a ++ (m ++ b)) (by simp; omega)
  have e : (a ++ (m ++ b)).take (off + 0) ++ vs ++ (a ++ (m ++ b)).drop (off + 0 + vs.length) = a ++ (vs ++ b) := by
    rw [Nat.add_zero, ← ho, List.take_left, hn, ← hm, ← List.drop_drop, List.drop_left, List.drop_left, List.append_assoc]
  rw [e] at hf
  have hz : v.cells.zipIdx.foldl (fun (cs : Array Value) (x : Value × Nat) => cs.setIfInBounds (off + x.2) x.1) (a ++ (m ++ b)).toArray = (a ++ (vs ++ b)).toArray := by
    rw [hv, ← hf, ← Array.foldl_toList]
    simp
  rw [Instr.fill, hp]
  simp only [hv, List.size_toArray, hn, h1, decide_false, ne_eq, not_true_eq_false, Bool.or_self, Bool.false_eq_true, if_false]
  rw [← hv]
  exact congrArg (fun x => Instr.fill place x rest) hz
theorem fill_nil (place : Nat → Option (Nat × Nat)) (cs : Array Value) : Instr.fill place cs [] = some cs := rfl
theorem built_of {t : TypeId} {fields : Array Field} {zs : List Value} {places : List (Nat × Nat)} (hz : (Tryd.prog.info? t).map (·.zero) = some (some (.agg zs.toArray))) (hu : Tryd.prog.underlying t = some (.struct fields)) (hp : fields.toList.mapM (fun f => (Tryd.prog.info? f.type).map fun i => (f.offset, i.size)) = some places) (parts : List (Nat × Value)) : Tryd.prog.built t parts = Instr.fill (places.toArray[·]?) zs.toArray parts := by
  cases hit : Tryd.prog.info? t with
  | none => simp [hit] at hz
  | some it =>
    simp [hit] at hz
    simp only [Program.built, hit, hu, hz, hp]
    rfl
theorem kv_cells (K : List UInt8) : (kv K).cells = (K.map byt).toArray := rfl
theorem bdHl {a b : List UInt8} {n : Nat} (ha : a.length = 32) (hb : b.length = 32) (W : World) : (Instr.build 33 [(0, kv a), (1, kv b), (2, u32v n)].toArray).run Tryd.prog W = .ok (Hl.v ⟨a, b, n⟩) W := by
  refine run_build W 33 _ _ ?_
  rw [built_of (zs := Hl.z.cs) (by kernel_rfl) Tryd.underlying33 (show _ = some [(0, 32), (32, 32), (64, 1)] by kernel_rfl)]
  show Instr.fill _ (Hl.cs Hl.z).toArray [(0, kv a), (1, kv b), (2, u32v n)] = some (Hl.cs ⟨a, b, n⟩).toArray
  rw [show Hl.cs Hl.z = [] ++ (z32.map byt ++ (z32.map byt ++ [u32v 0])) from rfl, fill_one (off := 0) (n := 32) rfl (kv_cells a) (by simp [ha]) rfl rfl]
  rw [show ([] : List Value) ++ (a.map byt ++ (z32.map byt ++ [u32v 0])) = a.map byt ++ (z32.map byt ++ [u32v 0]) from rfl, fill_one (off := 32) (n := 32) rfl (kv_cells b) (by simp [hb]) rfl (by simp [ha])]
  rw [show a.map byt ++ (b.map byt ++ [u32v 0]) = (a.map byt ++ b.map byt) ++ ([u32v 0] ++ []) from by simp, fill_one (vs := [u32v n]) (off := 64) (n := 1) rfl rfl rfl rfl (by simp [ha, hb]), fill_nil]
  simp [Hl.cs]
theorem bdOf {a b : List UInt8} {n : Nat} (ha : a.length = 32) (hb : b.length = 32) (W : World) : (Instr.build 28 [(0, kv a), (1, u32v n), (2, kv b)].toArray).run Tryd.prog W = .ok (Of.v ⟨a, n, b⟩) W := by
  refine run_build W 28 _ _ ?_
  rw [built_of (zs := Of.z.cs) (by kernel_rfl) Tryd.underlying28 (show _ = some [(0, 32), (32, 1), (33, 32)] by kernel_rfl)]
  show Instr.fill _ (Of.cs Of.z).toArray [(0, kv a), (1, u32v n), (2, kv b)] = some (Of.cs ⟨a, n, b⟩).toArray
  rw [show Of.cs Of.z = [] ++ (z32.map byt ++ ([u32v 0] ++ z32.map byt)) from rfl, fill_one (off := 0) (n := 32) rfl (kv_cells a) (by simp [ha]) rfl rfl]
  rw [show ([] : List Value) ++ (a.map byt ++ ([u32v 0] ++ z32.map byt)) = a.map byt ++ ([u32v 0] ++ z32.map byt) from rfl, fill_one (vs := [u32v n]) (off := 32) (n := 1) rfl rfl rfl rfl (by simp [ha])]
  rw [show a.map byt ++ ([u32v n] ++ z32.map byt) = (a.map byt ++ [u32v n]) ++ (z32.map byt ++ []) from by simp, fill_one (off := 33) (n := 32) rfl (kv_cells b) (by simp [hb]) rfl (by simp [ha]), fill_nil]
  simp [Of.cs]
theorem newA {t : TypeId} {cs : List Value} (hz : ∀ w, (zeroValue t).run Tryd.prog w = .ok (.agg cs.toArray) w) (w : World) : ∃ w1 q, (Instr.alloc t true (.tuple #[])).run Tryd.prog w = .ok (.pointer (some ⟨q, 0, none⟩)) w1 ∧ Blk w1 q cs t ∧ Below w.heap.size w w1 ∧ q = w.heap.size :=
  ⟨_, _, run_newR t _ hz w _ rfl, Blk.new _ _ _, below_new _ _, rfl⟩
end Go.Proofs.YtoceepmehmacbaaDoor
