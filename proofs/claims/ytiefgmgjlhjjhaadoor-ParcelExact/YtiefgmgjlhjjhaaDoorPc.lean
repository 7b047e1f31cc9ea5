import Derived.Test.YtiefgmgjlhjjhaaDoorPb
import Derived.Shelf.Strconv.Clone
import Derived.Maps.RangeRun
set_option linter.unusedVariables false
set_option linter.unusedSimpArgs false
namespace Go.Proofs.YtiefgmgjlhjjhaaDoor
open Go.RowKit

def lays316_ren : Go.Shelf.Ren := ⟨fun | 316 => 48 | n => n, fun | 9 => 9 | 3 => 3 | 4 => 4 | 37 => 24 | 0 => 0 | 127 => 130 | 5 => 5 | n => n, fun | n => n⟩
theorem lays316 : Go.Proofs.LaysM.n316 Tryd.prog lays316_ren := {
  mixed := by kernel_rfl,
  f316 := Tryd.func48.trans (congrArg some (by kernel_rfl)),
  t0 := Tryd.underlying0,
  a0 := Tryd.isAgg0,
  z0 := Tryd.sizeOf0,
  v0 := Tryd.zeroValue0,
  t3 := Tryd.underlying3,
  a3 := Tryd.isAgg3,
  z3 := Tryd.sizeOf3,
  v3 := Tryd.zeroValue3,
  t4 := Tryd.underlying4,
  a4 := Tryd.isAgg4,
  z4 := Tryd.sizeOf4,
  v4 := Tryd.zeroValue4,
  t9 := Tryd.underlying9,
  a9 := Tryd.isAgg9,
  z9 := Tryd.sizeOf9,
  v9 := Tryd.zeroValue9,
  t37 := Tryd.underlying24,
  a37 := Tryd.isAgg24,
  z37 := Tryd.sizeOf24,
  v37 := Tryd.zeroValue24,
  t127 := Tryd.underlying130,
  a127 := Tryd.isAgg130,
  z127 := Tryd.sizeOf130,
  v127 := Tryd.zeroValue130,
  t5 := Tryd.underlying5,
  a5 := Tryd.isAgg5,
  z5 := Tryd.sizeOf5,
  v5 := Tryd.zeroValue5,
  i0 := by kernel_rfl,
  i3 := by kernel_rfl,
  i4 := by kernel_rfl,
  i5 := by kernel_rfl,
  i9 := by kernel_rfl,
  i37 := by kernel_rfl,
  i127 := by kernel_rfl }
theorem sclone_any (l : List UInt8) (hl : l.length ≤ 1000000) (w : World) : Calls Tryd.prog 48 #[sv l] w fun e w' => e = .returned (sv l) ∧ Below w.heap.size w w' :=
  Any.stringslite_Clone lays316 ⟨l.toArray⟩ w (by show l.toArray.size ≤ _; rw [List.size_toArray]; omega)
set_option maxRecDepth 100000 in
set_option maxHeartbeats 1000000 in
theorem clone23 (l : List UInt8) (hl : l.length ≤ 1000000) (w : World) : Calls Tryd.prog 23 #[sv l] w fun e w' => e = .returned (sv l) ∧ Below w.heap.size w w' := by
  refine calls_of_args [sv l] Tryd.func23 rfl 5 Tryd.ntmps23 (by show 1 ≤ 5; decide) ?_
  refine EW.seq ?_
  refine EW.region ?_
  first | refine WL.assign rfl rfl rfl ?_
  refine WL.done ?_
  refine EW.on ?_
  refine EW.seq ?_
  refine EW.region ?_
  first | refine WL.move rfl rfl rfl ?_
  refine WL.call [sv l] enter48 rfl rfl rfl (sclone_any l hl _) ?_
  rintro _ w1 ⟨rfl, hb⟩
  refine ⟨_, rfl, ?_⟩
  first | refine WL.assign rfl rfl rfl ?_
  refine WL.done ?_
  refine EW.on ?_
  refine EW.ret ?_
  exact EW.returns Tryd.results23 rfl ⟨rfl, hb⟩
/-- A parcel: how many parts, the sum, which have come, their contents, the slices that hold these. -/
structure Pc where
  n : Nat
  s : List UInt8
  h : List Bool
  t : List (List UInt8)
  v : List Value
structure Pc.sh (p : Pc) : Prop where
  n2 : p.n ≤ 64
  s : p.s.length = 8
  h : p.h.length = 64
  t : p.t.length = 64
  v : p.v.length = 64
  sl : ∀ x ∈ p.v, ∃ ao n c, x = Value.slice ao n c
def Pc.cs (p : Pc) : List Value := [.int .i64 (p.n : Int)] ++ (p.s.map byt ++ (p.h.map Value.bool ++ p.v))
def Pc.val (p : Pc) : Value := .agg p.cs.toArray
structure Pc.hs (w : World) (p : Pc) : Prop where
  has : ∀ (i : Nat) v b, p.v[i]? = some v → p.t[i]? = some b → Has w v b
  le : ∀ b ∈ p.t, b.length ≤ 497
def e8 : List UInt8 := List.replicate 8 0
def Pc.mk0 (n : Nat) (s : List UInt8) : Pc := ⟨n, s, List.replicate 64 false, List.replicate 64 [], List.replicate 64 (.slice none 0 0)⟩
def Pc.z : Pc := Pc.mk0 0 e8
theorem Pc.sh0 {n : Nat} {s : List UInt8} (hn : n ≤ 64) (hs : s.length = 8) : (Pc.mk0 n s).sh := ⟨hn, hs, rfl, rfl, rfl, fun x hx => ⟨_, _, _, List.eq_of_mem_replicate hx⟩⟩
theorem Pc.hs0 (w : World) (n : Nat) (s : List UInt8) : (Pc.mk0 n s).hs w := by
  refine ⟨fun i v b hv hb => ?_, fun b hb => by rw [List.eq_of_mem_replicate (show b ∈ List.replicate 64 [] from hb)]; simp⟩
  have h1 := List.eq_of_mem_replicate (show v ∈ List.replicate 64 (.slice none 0 0) from List.mem_of_getElem? hv)
  have h2 := List.eq_of_mem_replicate (show b ∈ List.replicate 64 [] from List.mem_of_getElem? hb)
  rw [h1, h2]; exact Has.nil _
theorem Pc.hs.on {w w' : World} {p : Pc} (h : p.hs w) (hb : Below w.heap.size w w') : p.hs w' := ⟨fun i v b hv ht => (h.has i v b hv ht).below hb, h.le⟩
theorem Pc.len {p : Pc} (h : p.sh) : p.cs.length = 137 := by simp [Pc.cs, h.s, h.h, h.v]
theorem Pc.one {p : Pc} (h : p.sh) : p.cs.toArray.all (·.oneCell') = true := all_oneCell_toArray (fun v hv => by
  simp only [Pc.cs, List.mem_append, List.mem_singleton, List.mem_map] at hv
  rcases hv with rfl | ⟨u, _, rfl⟩ | ⟨u, _, rfl⟩ | hv
  · rfl
  · rfl
  · rfl
  · obtain ⟨_, _, _, rfl⟩ := h.sl v hv; rfl)
theorem i71 {p : Pc} (h : p.sh) : (Tryd.prog.info? 71).map (·.size) = some p.cs.length := by rw [Pc.len h]; kernel_rfl
theorem zv71 (w : World) : (zeroValue 71).run Tryd.prog w = .ok Pc.z.val w := (zero_of_info (show (Tryd.prog.info? 71).map (fun i => (i.zero, i.size)) = some (some Pc.z.val, 137) by kernel_rfl)).1 w
theorem bd71 (W : World) : (Instr.build 71 ([] : List (Nat × Value)).toArray).run Tryd.prog W = .ok Pc.z.val W := by kernel_rfl
theorem ld71 {w : World} {q : Nat} {p : Pc} (hp : p.sh) (hb : Blk w q p.cs 71) : (Instr.loadAt 71 (.pointer (some ⟨q, 0, none⟩))).run Tryd.prog w = .ok p.val w := hb.ldA (a := []) (b := []) Tryd.underlying71 rfl (i71 hp) (by simp) rfl
theorem st71 {w : World} {q : Nat} {p p' : Pc} (hp : p.sh) (hp' : p'.sh) (hb : Blk w q p'.cs 71) : ∃ w', (Instr.storeAt 71 (.pointer (some ⟨q, 0, none⟩)) p.val).run Tryd.prog w = .ok () w' ∧ Blk w' q p.cs 71 ∧ Fx (fun k => k = q) w w' := by
  obtain ⟨w', r1, r2, r3⟩ := hb.stA (ty := 71) (vs := p.cs) (o := 0) (a := []) (m := p'.cs) (b := []) (i71 hp) (Pc.one hp) (by simp) rfl (by rw [Pc.len hp, Pc.len hp'])
  exact ⟨w', r1, by simpa using r2, r3⟩
theorem f71_0 (q : Nat) (W : World) : (Instr.fieldAt 71 (.pointer (some ⟨q, 0, none⟩)) 0).run Tryd.prog W = .ok (.pointer (some ⟨q, 0, none⟩)) W := by go_simp
theorem f71_1 (q : Nat) (W : World) : (Instr.fieldAt 71 (.pointer (some ⟨q, 0, none⟩)) 1).run Tryd.prog W = .ok (.pointer (some ⟨q, 1, none⟩)) W := by go_simp
theorem f71_2 (q : Nat) (W : World) : (Instr.fieldAt 71 (.pointer (some ⟨q, 0, none⟩)) 2).run Tryd.prog W = .ok (.pointer (some ⟨q, 9, none⟩)) W := by go_simp
theorem f71_3 (q : Nat) (W : World) : (Instr.fieldAt 71 (.pointer (some ⟨q, 0, none⟩)) 3).run Tryd.prog W = .ok (.pointer (some ⟨q, 73, none⟩)) W := by go_simp
theorem x68 (q i : Nat) (h : i < 64) (W : World) : (Instr.indexAt 68 (.pointer (some ⟨q, 9, none⟩)) (.int .i64 (i : Int))).run Tryd.prog W = .ok (.pointer (some ⟨q, 9 + i, none⟩)) W := by
  have hm : (i : Int) < 64 := by omega
  go_simp
  try rw [Addr.add_mid]
theorem x69 (q i : Nat) (h : i < 64) (W : World) : (Instr.indexAt 69 (.pointer (some ⟨q, 73, none⟩)) (.int .i64 (i : Int))).run Tryd.prog W = .ok (.pointer (some ⟨q, 73 + i, none⟩)) W := by
  have hm : (i : Int) < 64 := by omega
  go_simp
  try rw [Addr.add_mid]
theorem s68 (q n : Nat) (h : n ≤ 64) (W : World) : (Instr.sliceAt 68 (.pointer (some ⟨q, 9, none⟩)) none (some (.int .i64 (n : Int))) none).run Tryd.prog W = .ok (.slice (some ⟨q, 9, none⟩) n 64) W := by
  have hm : (n : Int) ≤ 64 := by omega
  go_simp
  try simp
theorem s69 (q n : Nat) (h : n ≤ 64) (W : World) : (Instr.sliceAt 69 (.pointer (some ⟨q, 73, none⟩)) none (some (.int .i64 (n : Int))) none).run Tryd.prog W = .ok (.slice (some ⟨q, 73, none⟩) n 64) W := by
  have hm : (n : Int) ≤ 64 := by omega
  go_simp
  try simp
/-- A part, field by field. -/
structure Pi where
  id : Nat
  n : Nat
  i : Nat
  s : List UInt8
  v : Value
structure Pi.sh (p : Pi) : Prop where
  s : p.s.length = 8
  sl : ∃ ao n c, p.v = Value.slice ao n c
def Pi.cs (p : Pi) : List Value := [u32v p.id] ++ ([.int .i64 (p.n : Int)] ++ ([.int .i64 (p.i : Int)] ++ (p.s.map byt ++ [p.v])))
def Pi.val (p : Pi) : Value := .agg p.cs.toArray
def Pi.z : Pi := ⟨0, 0, 0, e8, .slice none 0 0⟩
theorem Pi.z_sh : Pi.z.sh := ⟨rfl, _, _, _, rfl⟩
theorem Pi.len {p : Pi} (h : p.sh) : p.cs.length = 12 := by simp [Pi.cs, h.s]
theorem Pi.one {p : Pi} (h : p.sh) : p.cs.toArray.all (·.oneCell') = true := all_oneCell_toArray (fun v hv => by
  simp only [Pi.cs, List.mem_append, List.mem_singleton, List.mem_map] at hv
  rcases hv with rfl | rfl | rfl | ⟨u, _, rfl⟩ | hv
  · rfl
  · rfl
  · rfl
  · rfl
  · obtain ⟨_, _, _, h⟩ := h.sl; rw [hv, h]; rfl)
theorem i58 {p : Pi} (h : p.sh) : (Tryd.prog.info? 58).map (·.size) = some p.cs.length := by rw [Pi.len h]; kernel_rfl
theorem zv58 (w : World) : (zeroValue 58).run Tryd.prog w = .ok Pi.z.val w := (zero_of_info (show (Tryd.prog.info? 58).map (fun i => (i.zero, i.size)) = some (some Pi.z.val, 12) by kernel_rfl)).1 w
theorem bd58 (W : World) : (Instr.build 58 ([] : List (Nat × Value)).toArray).run Tryd.prog W = .ok Pi.z.val W := by kernel_rfl
theorem ld58 {w : World} {q : Nat} {p : Pi} (hp : p.sh) (hb : Blk w q p.cs 58) : (Instr.loadAt 58 (.pointer (some ⟨q, 0, none⟩))).run Tryd.prog w = .ok p.val w := hb.ldA (a := []) (b := []) Tryd.underlying58 rfl (i58 hp) (by simp) rfl
theorem st58 {w : World} {q : Nat} {p p' : Pi} (hp : p.sh) (hp' : p'.sh) (hb : Blk w q p'.cs 58) : ∃ w', (Instr.storeAt 58 (.pointer (some ⟨q, 0, none⟩)) p.val).run Tryd.prog w = .ok () w' ∧ Blk w' q p.cs 58 ∧ Fx (fun k => k = q) w w' := by
  obtain ⟨w', r1, r2, r3⟩ := hb.stA (ty := 58) (vs := p.cs) (o := 0) (a := []) (m := p'.cs) (b := []) (i58 hp) (Pi.one hp) (by simp) rfl (by rw [Pi.len hp, Pi.len hp'])
  exact ⟨w', r1, by simpa using r2, r3⟩
theorem f58_0 (q : Nat) (W : World) : (Instr.fieldAt 58 (.pointer (some ⟨q, 0, none⟩)) 0).run Tryd.prog W = .ok (.pointer (some ⟨q, 0, none⟩)) W := by go_simp
theorem f58_1 (q : Nat) (W : World) : (Instr.fieldAt 58 (.pointer (some ⟨q, 0, none⟩)) 1).run Tryd.prog W = .ok (.pointer (some ⟨q, 1, none⟩)) W := by go_simp
theorem f58_2 (q : Nat) (W : World) : (Instr.fieldAt 58 (.pointer (some ⟨q, 0, none⟩)) 2).run Tryd.prog W = .ok (.pointer (some ⟨q, 2, none⟩)) W := by go_simp
theorem f58_3 (q : Nat) (W : World) : (Instr.fieldAt 58 (.pointer (some ⟨q, 0, none⟩)) 3).run Tryd.prog W = .ok (.pointer (some ⟨q, 3, none⟩)) W := by go_simp
theorem f58_4 (q : Nat) (W : World) : (Instr.fieldAt 58 (.pointer (some ⟨q, 0, none⟩)) 4).run Tryd.prog W = .ok (.pointer (some ⟨q, 11, none⟩)) W := by go_simp
theorem f61_0 (q : Nat) (W : World) : (Instr.fieldAt 61 (.pointer (some ⟨q, 0, none⟩)) 0).run Tryd.prog W = .ok (.pointer (some ⟨q, 0, none⟩)) W := by go_simp
theorem f61_1 (q : Nat) (W : World) : (Instr.fieldAt 61 (.pointer (some ⟨q, 0, none⟩)) 1).run Tryd.prog W = .ok (.pointer (some ⟨q, 1, none⟩)) W := by go_simp
theorem f67_0 (q : Nat) (W : World) : (Instr.fieldAt 67 (.pointer (some ⟨q, 0, none⟩)) 0).run Tryd.prog W = .ok (.pointer (some ⟨q, 0, none⟩)) W := by go_simp
def plV (a : List UInt8) (n : Nat) : Value := .agg [sv a, u32v n].toArray
theorem ldM {W : World} {q j : Nat} {cs : List Value} {t : TypeId} {v : Value} (hb : Blk W q cs t) (hv : cs[j]? = some v) : (Instr.loadAt 59 (.pointer (some ⟨q, j, none⟩))).run Tryd.prog W = .ok v W := by
  have hc : W.cell? ⟨q, j, none⟩ = some v := (hb.cell j).trans hv
  go_simp
theorem ldB {W : World} {q j : Nat} {cs : List Value} {t : TypeId} {v : Value} (hb : Blk W q cs t) (hv : cs[j]? = some v) : (Instr.loadAt 4 (.pointer (some ⟨q, j, none⟩))).run Tryd.prog W = .ok v W := by
  have hc : W.cell? ⟨q, j, none⟩ = some v := (hb.cell j).trans hv
  go_simp
theorem ldU2 {W : World} {q j : Nat} {cs : List Value} {t : TypeId} {v : Value} (hb : Blk W q cs t) (hv : cs[j]? = some v) : (Instr.loadAt 22 (.pointer (some ⟨q, j, none⟩))).run Tryd.prog W = .ok v W := by
  have hc : W.cell? ⟨q, j, none⟩ = some v := (hb.cell j).trans hv
  go_simp
theorem ldT {W : World} {q j : Nat} {cs : List Value} {t : TypeId} {v : Value} (hb : Blk W q cs t) (hv : cs[j]? = some v) : (Instr.loadAt 9 (.pointer (some ⟨q, j, none⟩))).run Tryd.prog W = .ok v W := by
  have hc : W.cell? ⟨q, j, none⟩ = some v := (hb.cell j).trans hv
  go_simp
theorem stBo {w : World} {q j : Nat} {cs : List Value} {t : TypeId} (hb : Blk w q cs t) (hj : j < cs.length) (v : Bool) : ∃ w', (Instr.storeAt 4 (.pointer (some ⟨q, j, none⟩)) (.bool v)).run Tryd.prog w = .ok () w' ∧ Blk w' q (cs.set j (.bool v)) t ∧ Fx (fun k => k = q) w w' := by
  have hc : w.cell? ⟨q, j, none⟩ = some cs[j] := (hb.cell j).trans (List.getElem?_eq_getElem hj)
  have hf := hb.frozen j
  refine ⟨w.setCell ⟨q, j, none⟩ (.bool v), by go_simp, hb.set j _, Fx.setCell (S := fun k => k = q) _ _ _ _ rfl⟩
theorem stU2 {w : World} {q j : Nat} {cs : List Value} {t : TypeId} (hb : Blk w q cs t) (hj : j < cs.length) (n : Nat) : ∃ w', (Instr.storeAt 22 (.pointer (some ⟨q, j, none⟩)) (u32v n)).run Tryd.prog w = .ok () w' ∧ Blk w' q (cs.set j (u32v n)) t ∧ Fx (fun k => k = q) w w' := by
  have hc : w.cell? ⟨q, j, none⟩ = some cs[j] := (hb.cell j).trans (List.getElem?_eq_getElem hj)
  have hf := hb.frozen j
  unfold u32v
  refine ⟨w.setCell ⟨q, j, none⟩ (.int .u32 (n : Int)), by go_simp, hb.set j _, Fx.setCell (S := fun k => k = q) _ _ _ _ rfl⟩
theorem ld67 {w : World} {q : Nat} {a : List UInt8} {n : Nat} (hb : Blk w q [sv a, u32v n] 67) : (Instr.loadAt 67 (.pointer (some ⟨q, 0, none⟩))).run Tryd.prog w = .ok (plV a n) w := hb.ldA (a := []) (m := [sv a, u32v n]) (b := []) Tryd.underlying67 rfl (by show _ = some 2; kernel_rfl) (by simp) rfl
theorem zv67 (w : World) : (zeroValue 67).run Tryd.prog w = .ok (plV [] 0) w := (zero_of_info (show (Tryd.prog.info? 67).map (fun i => (i.zero, i.size)) = some (some (plV [] 0), 2) by kernel_rfl)).1 w
theorem st67 {w : World} {q : Nat} {x y : Value} (hb : Blk w q [x, y] 67) (a : List UInt8) (n : Nat) : ∃ w', (Instr.storeAt 67 (.pointer (some ⟨q, 0, none⟩)) (plV a n)).run Tryd.prog w = .ok () w' ∧ Blk w' q [sv a, u32v n] 67 ∧ Fx (fun k => k = q) w w' := by
  obtain ⟨w', r1, r2, r3⟩ := hb.stA (ty := 67) (vs := [sv a, u32v n]) (o := 0) (a := []) (m := [x, y]) (b := []) (by show _ = some 2; kernel_rfl) (by simp [u32v, sv, Value.oneCell']) rfl rfl rfl
  exact ⟨w', r1, by simpa using r2, r3⟩
theorem bd67 (a : List UInt8) (n : Nat) (W : World) : (Instr.build 67 [(0, sv a), (1, u32v n)].toArray).run Tryd.prog W = .ok (plV a n) W := by kernel_rfl
theorem u54 : Tryd.prog.underlying 54 = some (.array 8 5) := by kernel_rfl
theorem i54 {K : List UInt8} (h : K.length = 8) : (Tryd.prog.info? 54).map (·.size) = some (K.map byt).length := by rw [List.length_map, h]; kernel_rfl
theorem neq54 (K L : List UInt8) (hk : K.length = 8) (hl : L.length = 8) (W : World) (x y : Operand) : (do eqGuard .neq 54 x y (kv K) (kv L); binOp .neq 54 (kv K) (kv L) : Sem Value).run Tryd.prog W = .ok (.bool (decide (¬ K = L))) W := by
  have he := arrD 54 8 u54 K L hk hl 9998 W
  have hg : Tryd.prog.eqGuardType Tryd.prog.depth 54 = false := by kernel_rfl
  unfold kv
  rw [Sem.run_bind, run_eqGuard_agg W .neq 54 x y _ _ hg, Result.andThen_ok, run_neq_struct, he, Result.andThen_ok]
  rw [decide_not]
theorem zv54 (w : World) : (zeroValue 54).run Tryd.prog w = .ok (kv e8) w := (zero_of_info (show (Tryd.prog.info? 54).map (fun i => (i.zero, i.size)) = some (some (kv e8), 8) by kernel_rfl)).1 w
theorem eqS (d : Nat) (a b : List UInt8) (W : World) : (Op.equalIn (d + 1) 9 (sv a) (sv b)).run Tryd.prog W = .ok (decide (a = b)) W := by
  unfold sv
  go_simp
  rw [Bool.eq_iff_iff]; simp
theorem eqPl (a b : List UInt8) (n m : Nat) (W : World) : (Op.equalIn 10000 67 (plV a n) (plV b m)).run Tryd.prog W = .ok (decide (a = b ∧ n = m)) W := by
  unfold plV
  rw [run_equalIn_struct W 9999 67 _ _ (by kernel_rfl) (by kernel_rfl)]
  simp only [Program.fieldsOf, Tryd.underlying67]
  have e : decide (a = b ∧ n = m) = (decide (a = b) && (decide (n = m) && true)) := by
    rw [Bool.and_true, ← Bool.decide_and]
  rw [e]
  refine eqF_cons (by decide) (part_one (a := []) Tryd.isAgg9 rfl rfl W) (part_one (a := []) Tryd.isAgg9 rfl rfl W) (eqS 9998 _ _ W) ?_
  refine eqF_cons (by decide) (part_one (a := [sv a]) Tryd.isAgg22 rfl rfl W) (part_one (a := [sv b]) Tryd.isAgg22 rfl rfl W) (eqU 9998 _ _ W) ?_
  exact eqF_nil _ _ _ _
end Go.Proofs.YtiefgmgjlhjjhaaDoor
