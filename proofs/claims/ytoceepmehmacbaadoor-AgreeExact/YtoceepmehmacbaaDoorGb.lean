import Derived.Test.YtoceepmehmacbaaDoorGa
set_option linter.unusedVariables false
set_option linter.unusedSimpArgs false
namespace Go.Proofs.YtoceepmehmacbaaDoor
open Go.RowKit

/-- Two keys, one behind the other. -/
structure Pr where
  a : List UInt8
  b : List UInt8
structure Pr.ok (p : Pr) : Prop where
  a : p.a.length = 32
  b : p.b.length = 32
def Pr.cs (p : Pr) : List Value := p.a.map byt ++ p.b.map byt
def Pr.v (p : Pr) : Value := .agg p.cs.toArray
def Pr.z : Pr := ⟨z32, z32⟩
theorem Pr.len {p : Pr} (h : p.ok) : p.cs.length = 64 := by simp [Pr.cs, h.a, h.b]
theorem Pr.one' (p : Pr) : ∀ v ∈ p.cs, v.oneCell' = true := fun v hv => by
  simp only [Pr.cs, List.mem_append] at hv
  rcases hv with hv | hv
  · exact one_byts _ v hv
  · exact one_byts _ v hv
theorem Pr.one (p : Pr) : p.cs.toArray.all (·.oneCell') = true := all_oneCell_toArray p.one'
/-- What both calls answer. -/
structure An where
  s : List UInt8
  i : List UInt8
  b : List UInt8
  h : Hl
  e : Int
structure An.ok (x : An) : Prop where
  s : x.s.length = 32
  i : x.i.length = 16
  b : x.b.length = 64
  h : x.h.ok
def An.cs (x : An) : List Value := x.s.map byt ++ (x.i.map byt ++ (x.b.map byt ++ (x.h.cs ++ [.int .i64 x.e])))
def An.v (x : An) : Value := .agg x.cs.toArray
def An.no (e : Int) : An := ⟨z32, z16, z64k, Hl.z, e⟩
theorem An.no_ok (e : Int) : (An.no e).ok := ⟨rfl, rfl, rfl, Hl.z_ok⟩
theorem An.len {x : An} (h : x.ok) : x.cs.length = 178 := by simp [An.cs, h.s, h.i, h.b, Hl.len h.h]
theorem An.one' (x : An) : ∀ v ∈ x.cs, v.oneCell' = true := fun v hv => by
  simp only [An.cs, List.mem_append, List.mem_singleton] at hv
  rcases hv with hv | hv | hv | hv | rfl
  · exact one_byts _ v hv
  · exact one_byts _ v hv
  · exact one_byts _ v hv
  · exact x.h.one' v hv
  · rfl
theorem An.one (x : An) : x.cs.toArray.all (·.oneCell') = true := all_oneCell_toArray x.one'
theorem f25_0 (q o : Nat) (W : World) : (Instr.fieldAt 25 (.pointer (some ⟨q, o, none⟩)) 0).run Tryd.prog W = .ok (.pointer (some ⟨q, o + 0, none⟩)) W := by
  go_simp
  try simp
  try rw [Addr.add_mid]
theorem f25_1 (q o : Nat) (W : World) : (Instr.fieldAt 25 (.pointer (some ⟨q, o, none⟩)) 1).run Tryd.prog W = .ok (.pointer (some ⟨q, o + 32, none⟩)) W := by
  go_simp
  try simp
  try rw [Addr.add_mid]
theorem f66_0 (q o : Nat) (W : World) : (Instr.fieldAt 66 (.pointer (some ⟨q, o, none⟩)) 0).run Tryd.prog W = .ok (.pointer (some ⟨q, o + 0, none⟩)) W := by
  go_simp
  try simp
  try rw [Addr.add_mid]
theorem f66_1 (q o : Nat) (W : World) : (Instr.fieldAt 66 (.pointer (some ⟨q, o, none⟩)) 1).run Tryd.prog W = .ok (.pointer (some ⟨q, o + 32, none⟩)) W := by
  go_simp
  try simp
  try rw [Addr.add_mid]
theorem f35_0 (q o : Nat) (W : World) : (Instr.fieldAt 35 (.pointer (some ⟨q, o, none⟩)) 0).run Tryd.prog W = .ok (.pointer (some ⟨q, o + 0, none⟩)) W := by
  go_simp
  try simp
  try rw [Addr.add_mid]
theorem f35_1 (q o : Nat) (W : World) : (Instr.fieldAt 35 (.pointer (some ⟨q, o, none⟩)) 1).run Tryd.prog W = .ok (.pointer (some ⟨q, o + 32, none⟩)) W := by
  go_simp
  try simp
  try rw [Addr.add_mid]
theorem f52_0 (q o : Nat) (W : World) : (Instr.fieldAt 52 (.pointer (some ⟨q, o, none⟩)) 0).run Tryd.prog W = .ok (.pointer (some ⟨q, o + 0, none⟩)) W := by
  go_simp
  try simp
  try rw [Addr.add_mid]
theorem f52_1 (q o : Nat) (W : World) : (Instr.fieldAt 52 (.pointer (some ⟨q, o, none⟩)) 1).run Tryd.prog W = .ok (.pointer (some ⟨q, o + 1, none⟩)) W := by
  go_simp
  try simp
  try rw [Addr.add_mid]
theorem f52_2 (q o : Nat) (W : World) : (Instr.fieldAt 52 (.pointer (some ⟨q, o, none⟩)) 2).run Tryd.prog W = .ok (.pointer (some ⟨q, o + 65, none⟩)) W := by
  go_simp
  try simp
  try rw [Addr.add_mid]
theorem f52_3 (q o : Nat) (W : World) : (Instr.fieldAt 52 (.pointer (some ⟨q, o, none⟩)) 3).run Tryd.prog W = .ok (.pointer (some ⟨q, o + 129, none⟩)) W := by
  go_simp
  try simp
  try rw [Addr.add_mid]
theorem f52_4 (q o : Nat) (W : World) : (Instr.fieldAt 52 (.pointer (some ⟨q, o, none⟩)) 4).run Tryd.prog W = .ok (.pointer (some ⟨q, o + 194, none⟩)) W := by
  go_simp
  try simp
  try rw [Addr.add_mid]
theorem u31 : Tryd.prog.underlying 31 = some (.array 64 5) := by kernel_rfl
theorem u80 : Tryd.prog.underlying 80 = some (.array 3 23) := by kernel_rfl
theorem u67 : Tryd.prog.underlying 67 = some (.array 3 66) := by kernel_rfl
theorem i31 {K : List UInt8} (h : K.length = 64) : (Tryd.prog.info? 31).map (·.size) = some (K.map byt).length := by rw [List.length_map, h]; kernel_rfl
theorem i25 {p : Pr} (k : p.ok) : (Tryd.prog.info? 25).map (·.size) = some p.cs.length := by rw [Pr.len k]; kernel_rfl
theorem i66 {p : Pr} (k : p.ok) : (Tryd.prog.info? 66).map (·.size) = some p.cs.length := by rw [Pr.len k]; kernel_rfl
theorem i35 {x : An} (k : x.ok) : (Tryd.prog.info? 35).map (·.size) = some x.cs.length := by rw [An.len k]; kernel_rfl
def thr (a b c : Pr) : List Value := a.cs ++ (b.cs ++ c.cs)
def thK (x y z : List UInt8) : List Value := x.map byt ++ (y.map byt ++ z.map byt)
theorem thr_len {a b c : Pr} (ha : a.ok) (hb : b.ok) (hc : c.ok) : (thr a b c).length = 192 := by simp [thr, Pr.len ha, Pr.len hb, Pr.len hc]
theorem thK_len {x y z : List UInt8} (ha : x.length = 32) (hb : y.length = 32) (hc : z.length = 32) : (thK x y z).length = 96 := by simp [thK, ha, hb, hc]
theorem i67 {a b c : Pr} (ha : a.ok) (hb : b.ok) (hc : c.ok) : (Tryd.prog.info? 67).map (·.size) = some (thr a b c).length := by rw [thr_len ha hb hc]; kernel_rfl
theorem i80 {x y z : List UInt8} (ha : x.length = 32) (hb : y.length = 32) (hc : z.length = 32) : (Tryd.prog.info? 80).map (·.size) = some (thK x y z).length := by rw [thK_len ha hb hc]; kernel_rfl
theorem u25 : ∃ d, Tryd.prog.underlying 25 = some d ∧ d.isRow = true := ⟨_, Tryd.underlying25, rfl⟩
theorem u35 : ∃ d, Tryd.prog.underlying 35 = some d ∧ d.isRow = true := ⟨_, Tryd.underlying35, rfl⟩
theorem zv30 (w : World) : (zeroValue 30).run Tryd.prog w = .ok (kv z16) w := (zero_of_info (show (Tryd.prog.info? 30).map (fun i => (i.zero, i.size)) = some (some (kv z16), 16) by kernel_rfl)).1 w
theorem zv31 (w : World) : (zeroValue 31).run Tryd.prog w = .ok (kv z64k) w := (zero_of_info (show (Tryd.prog.info? 31).map (fun i => (i.zero, i.size)) = some (some (kv z64k), 64) by kernel_rfl)).1 w
theorem zv25 (w : World) : (zeroValue 25).run Tryd.prog w = .ok (Pr.z.v) w := (zero_of_info (show (Tryd.prog.info? 25).map (fun i => (i.zero, i.size)) = some (some (Pr.z.v), 64) by kernel_rfl)).1 w
theorem zv66 (w : World) : (zeroValue 66).run Tryd.prog w = .ok (Pr.z.v) w := (zero_of_info (show (Tryd.prog.info? 66).map (fun i => (i.zero, i.size)) = some (some (Pr.z.v), 64) by kernel_rfl)).1 w
theorem zv35 (w : World) : (zeroValue 35).run Tryd.prog w = .ok ((An.no 0).v) w := (zero_of_info (show (Tryd.prog.info? 35).map (fun i => (i.zero, i.size)) = some (some ((An.no 0).v), 178) by kernel_rfl)).1 w
theorem zv80 (w : World) : (zeroValue 80).run Tryd.prog w = .ok (.agg (thK z32 z32 z32).toArray) w := (zero_of_info (show (Tryd.prog.info? 80).map (fun i => (i.zero, i.size)) = some (some (.agg (thK z32 z32 z32).toArray), 96) by kernel_rfl)).1 w
theorem bd30 (W : World) : (Instr.build 30 ([] : List (Nat × Value)).toArray).run Tryd.prog W = .ok (kv z16) W := by kernel_rfl
theorem bd31 (W : World) : (Instr.build 31 ([] : List (Nat × Value)).toArray).run Tryd.prog W = .ok (kv z64k) W := by kernel_rfl
theorem bdPr25 {a b : List UInt8} (ha : a.length = 32) (hb : b.length = 32) (W : World) : (Instr.build 25 [(0, kv a), (1, kv b)].toArray).run Tryd.prog W = .ok (Pr.v ⟨a, b⟩) W := by
  refine run_build W 25 _ _ ?_
  rw [built_of (zs := Pr.z.cs) (by kernel_rfl) Tryd.underlying25 (show _ = some [(0, 32), (32, 32)] by kernel_rfl)]
  show Instr.fill _ (Pr.cs Pr.z).toArray [(0, kv a), (1, kv b)] = some (Pr.cs ⟨a, b⟩).toArray
  rw [show Pr.cs Pr.z = [] ++ (z32.map byt ++ z32.map byt) from rfl, fill_one (off := 0) (n := 32) rfl (kv_cells a) (by simp [ha]) rfl rfl]
  rw [show ([] : List Value) ++ (a.map byt ++ z32.map byt) = a.map byt ++ (z32.map byt ++ []) from by simp, fill_one (off := 32) (n := 32) rfl (kv_cells b) (by simp [hb]) rfl (by simp [ha]), fill_nil]
  simp [Pr.cs]
theorem bdPr66 {a b : List UInt8} (ha : a.length = 32) (hb : b.length = 32) (W : World) : (Instr.build 66 [(0, kv a), (1, kv b)].toArray).run Tryd.prog W = .ok (Pr.v ⟨a, b⟩) W := by
  refine run_build W 66 _ _ ?_
  rw [built_of (zs := Pr.z.cs) (by kernel_rfl) Tryd.underlying66 (show _ = some [(0, 32), (32, 32)] by kernel_rfl)]
  show Instr.fill _ (Pr.cs Pr.z).toArray [(0, kv a), (1, kv b)] = some (Pr.cs ⟨a, b⟩).toArray
  rw [show Pr.cs Pr.z = [] ++ (z32.map byt ++ z32.map byt) from rfl, fill_one (off := 0) (n := 32) rfl (kv_cells a) (by simp [ha]) rfl rfl]
  rw [show ([] : List Value) ++ (a.map byt ++ z32.map byt) = a.map byt ++ (z32.map byt ++ []) from by simp, fill_one (off := 32) (n := 32) rfl (kv_cells b) (by simp [hb]) rfl (by simp [ha]), fill_nil]
  simp [Pr.cs]
theorem built_arr {t e : TypeId} {n s : Nat} {zs : List Value} (hz : (Tryd.prog.info? t).map (·.zero) = some (some (.agg zs.toArray))) (hu : Tryd.prog.underlying t = some (.array n e)) (hs : (Tryd.prog.info? e).map (·.size) = some s) (parts : List (Nat × Value)) : Tryd.prog.built t parts = Instr.fill (fun i => some (i * s, s)) zs.toArray parts := by
  cases hit : Tryd.prog.info? t with
  | none => simp [hit] at hz
  | some it =>
    cases hie : Tryd.prog.info? e with
    | none => simp [hie] at hs
    | some ie =>
      simp [hit] at hz
      simp [hie] at hs
      simp only [Program.built, hit, hu, hz, hie, hs]
      rfl
theorem pr_cells (p : Pr) : (Pr.v p).cells = p.cs.toArray := rfl
theorem bd67 {a b c : Pr} (ha : a.ok) (hb : b.ok) (hc : c.ok) (W : World) : (Instr.build 67 [(0, a.v), (1, b.v), (2, c.v)].toArray).run Tryd.prog W = .ok (.agg (thr a b c).toArray) W := by
  refine run_build W 67 _ _ ?_
  rw [built_arr (zs := thr Pr.z Pr.z Pr.z) (by kernel_rfl) u67 (show _ = some 64 by kernel_rfl)]
  show Instr.fill _ (thr Pr.z Pr.z Pr.z).toArray [(0, a.v), (1, b.v), (2, c.v)] = some (thr a b c).toArray
  rw [show thr Pr.z Pr.z Pr.z = [] ++ (Pr.z.cs ++ (Pr.z.cs ++ Pr.z.cs)) from rfl, fill_one (off := 0) (n := 64) rfl (pr_cells a) (Pr.len ha) rfl rfl]
  rw [show ([] : List Value) ++ (a.cs ++ (Pr.z.cs ++ Pr.z.cs)) = a.cs ++ (Pr.z.cs ++ Pr.z.cs) from rfl, fill_one (off := 64) (n := 64) rfl (pr_cells b) (Pr.len hb) rfl (Pr.len ha)]
  rw [show a.cs ++ (b.cs ++ Pr.z.cs) = (a.cs ++ b.cs) ++ (Pr.z.cs ++ []) from by simp, fill_one (off := 128) (n := 64) rfl (pr_cells c) (Pr.len hc) rfl (by simp [Pr.len ha, Pr.len hb]), fill_nil]
  simp [thr]
theorem bdAn0 (e : Int) (W : World) : (Instr.build 35 [(4, .int .i64 e)].toArray).run Tryd.prog W = .ok (An.no e).v W := by
  refine run_build W 35 _ _ ?_
  rw [built_of (zs := (An.no 0).cs) (by kernel_rfl) Tryd.underlying35 (show _ = some [(0, 32), (32, 16), (48, 64), (112, 65), (177, 1)] by kernel_rfl)]
  show Instr.fill _ (An.no 0).cs.toArray [(4, .int .i64 e)] = some (An.no e).cs.toArray
  rw [show (An.no 0).cs = (z32.map byt ++ (z16.map byt ++ (z64k.map byt ++ Hl.z.cs))) ++ ([.int .i64 0] ++ []) from by simp [An.cs, An.no], fill_one (vs := [.int .i64 e]) (off := 177) (n := 1) rfl rfl rfl rfl (by simp [z32, z16, z64k, Hl.len Hl.z_ok]), fill_nil]
  simp [An.cs, An.no]
theorem hl_cells (p : Hl) : (Hl.v p).cells = p.cs.toArray := rfl
theorem bdAn {x : An} (k : x.ok) (W : World) : (Instr.build 35 [(0, kv x.s), (1, kv x.i), (2, kv x.b), (3, x.h.v), (4, .int .i64 x.e)].toArray).run Tryd.prog W = .ok x.v W := by
  refine run_build W 35 _ _ ?_
  rw [built_of (zs := (An.no 0).cs) (by kernel_rfl) Tryd.underlying35 (show _ = some [(0, 32), (32, 16), (48, 64), (112, 65), (177, 1)] by kernel_rfl)]
  show Instr.fill _ (An.no 0).cs.toArray [(0, kv x.s), (1, kv x.i), (2, kv x.b), (3, x.h.v), (4, .int .i64 x.e)] = some x.cs.toArray
  rw [show (An.no 0).cs = [] ++ (z32.map byt ++ (z16.map byt ++ (z64k.map byt ++ (Hl.z.cs ++ [.int .i64 0])))) from rfl, fill_one (off := 0) (n := 32) rfl (kv_cells _) (by simp [k.s]) rfl rfl]
  rw [show ([] : List Value) ++ (x.s.map byt ++ (z16.map byt ++ (z64k.map byt ++ (Hl.z.cs ++ [.int .i64 0])))) = x.s.map byt ++ (z16.map byt ++ (z64k.map byt ++ (Hl.z.cs ++ [.int .i64 0]))) from rfl, fill_one (off := 32) (n := 16) rfl (kv_cells _) (by simp [k.i]) rfl (by simp [k.s])]
  rw [show x.s.map byt ++ (x.i.map byt ++ (z64k.map byt ++ (Hl.z.cs ++ [.int .i64 0]))) = (x.s.map byt ++ x.i.map byt) ++ (z64k.map byt ++ (Hl.z.cs ++ [.int .i64 0])) from by simp, fill_one (off := 48) (n := 64) rfl (kv_cells _) (by simp [k.b]) rfl (by simp [k.s, k.i])]
  rw [show (x.s.map byt ++ x.i.map byt) ++ (x.b.map byt ++ (Hl.z.cs ++ [.int .i64 0])) = (x.s.map byt ++ (x.i.map byt ++ x.b.map byt)) ++ (Hl.z.cs ++ [.int .i64 0]) from by simp, fill_one (off := 112) (n := 65) rfl (hl_cells _) (Hl.len k.h) (Hl.len Hl.z_ok) (by simp [k.s, k.i, k.b])]
  rw [show (x.s.map byt ++ (x.i.map byt ++ x.b.map byt)) ++ (x.h.cs ++ [.int .i64 0]) = (x.s.map byt ++ (x.i.map byt ++ (x.b.map byt ++ x.h.cs))) ++ ([.int .i64 0] ++ []) from by simp, fill_one (vs := [.int .i64 x.e]) (off := 177) (n := 1) rfl rfl rfl rfl (by simp [k.s, k.i, k.b, Hl.len k.h]), fill_nil]
  simp [An.cs]
theorem bdAn4 {x : An} (k : x.ok) (hh : x.h = Hl.z) (W : World) : (Instr.build 35 [(0, kv x.s), (1, kv x.i), (2, kv x.b), (4, .int .i64 x.e)].toArray).run Tryd.prog W = .ok x.v W := by
  refine run_build W 35 _ _ ?_
  rw [built_of (zs := (An.no 0).cs) (by kernel_rfl) Tryd.underlying35 (show _ = some [(0, 32), (32, 16), (48, 64), (112, 65), (177, 1)] by kernel_rfl)]
  show Instr.fill _ (An.no 0).cs.toArray [(0, kv x.s), (1, kv x.i), (2, kv x.b), (4, .int .i64 x.e)] = some x.cs.toArray
  rw [show (An.no 0).cs = [] ++ (z32.map byt ++ (z16.map byt ++ (z64k.map byt ++ (Hl.z.cs ++ [.int .i64 0])))) from rfl, fill_one (off := 0) (n := 32) rfl (kv_cells _) (by simp [k.s]) rfl rfl]
  rw [show ([] : List Value) ++ (x.s.map byt ++ (z16.map byt ++ (z64k.map byt ++ (Hl.z.cs ++ [.int .i64 0])))) = x.s.map byt ++ (z16.map byt ++ (z64k.map byt ++ (Hl.z.cs ++ [.int .i64 0]))) from rfl, fill_one (off := 32) (n := 16) rfl (kv_cells _) (by simp [k.i]) rfl (by simp [k.s])]
  rw [show x.s.map byt ++ (x.i.map byt ++ (z64k.map byt ++ (Hl.z.cs ++ [.int .i64 0]))) = (x.s.map byt ++ x.i.map byt) ++ (z64k.map byt ++ (Hl.z.cs ++ [.int .i64 0])) from by simp, fill_one (off := 48) (n := 64) rfl (kv_cells _) (by simp [k.b]) rfl (by simp [k.s, k.i])]
  rw [show (x.s.map byt ++ x.i.map byt) ++ (x.b.map byt ++ (Hl.z.cs ++ [.int .i64 0])) = (x.s.map byt ++ (x.i.map byt ++ (x.b.map byt ++ Hl.z.cs))) ++ ([.int .i64 0] ++ []) from by simp, fill_one (vs := [.int .i64 x.e]) (off := 177) (n := 1) rfl rfl rfl rfl (by simp [k.s, k.i, k.b, Hl.len Hl.z_ok]), fill_nil]
  simp [An.cs, hh]
/-- An end of three. -/
theorem idx67 (a b c : Pr) (ha : a.ok) (hb : b.ok) (hc : c.ok) (W : World) : (Instr.index 67 (.agg (thr a b c).toArray) (.int .i64 0)).run Tryd.prog W = .ok a.v W ∧ (Instr.index 67 (.agg (thr a b c).toArray) (.int .i64 1)).run Tryd.prog W = .ok b.v W ∧ (Instr.index 67 (.agg (thr a b c).toArray) (.int .i64 2)).run Tryd.prog W = .ok c.v W := by
  have s66 : ∀ {p : Pr}, p.ok → ∀ w, (sizeOf 66).run Tryd.prog w = .ok p.cs.length w := fun h w => by rw [Pr.len h]; exact Tryd.sizeOf66 w
  have h0 := part_row (ty := 66) (cs := thr a b c) (a := []) (b := b.cs ++ c.cs) (m := a.cs) (o := 0) Tryd.isAgg66 (s66 ha) rfl rfl W
  have h1 := part_row (ty := 66) (cs := thr a b c) (a := a.cs) (b := c.cs) (m := b.cs) (o := 64) Tryd.isAgg66 (s66 hb) rfl (Pr.len ha) W
  have h2 := part_row (ty := 66) (cs := thr a b c) (a := a.cs ++ b.cs) (b := []) (m := c.cs) (o := 128) Tryd.isAgg66 (s66 hc) (by simp [thr]) (by simp [Pr.len ha, Pr.len hb]) W
  refine ⟨?_, ?_, ?_⟩
  · show _ = Result.ok (Value.agg _) W
    simpa [Instr.index, asIntOf, run_underlying u67, Tryd.sizeOf66] using h0
  · show _ = Result.ok (Value.agg _) W
    simpa [Instr.index, asIntOf, run_underlying u67, Tryd.sizeOf66] using h1
  · show _ = Result.ok (Value.agg _) W
    simpa [Instr.index, asIntOf, run_underlying u67, Tryd.sizeOf66] using h2
theorem ix80 (q m : Nat) (h : m < 3) (W : World) : (Instr.indexAt 80 (.pointer (some ⟨q, 0, none⟩)) (.int .i64 (m : Int))).run Tryd.prog W = .ok (.pointer (some ⟨q, 32 * m, none⟩)) W := by
  have hm : (m : Int) < 3 := by omega
  go_simp
  try simp
  try rw [add_plain]
  try simp [Nat.mul_comm]
instance : DecidableEq An := fun a b => decidable_of_iff (a.s = b.s ∧ a.i = b.i ∧ a.b = b.b ∧ a.h = b.h ∧ a.e = b.e) (by cases a; cases b; simp)
theorem eqI (d : Nat) (n m : Int) (W : World) : (Op.equalIn (d + 1) 3 (.int .i64 n) (.int .i64 m)).run Tryd.prog W = .ok (decide (n = m)) W := by
  rw [run_equalIn_int (P := Tryd.prog) W d 3 .i64 .i64 n m Tryd.underlying3]
  rfl
theorem sz31 {K : List UInt8} (h : K.length = 64) : ∀ w, (sizeOf 31).run Tryd.prog w = .ok (K.map byt).length w := fun w => by rw [List.length_map, h]; exact Tryd.sizeOf31 w
theorem sz33 {h : Hl} (k : h.ok) : ∀ w, (sizeOf 33).run Tryd.prog w = .ok h.cs.length w := fun w => by rw [Hl.len k]; exact Tryd.sizeOf33 w
theorem eqHld (d : Nat) (g h : Hl) (kg : g.ok) (kh : h.ok) (W : World) : (Op.equalIn (d + 4) 33 g.v h.v).run Tryd.prog W = .ok (decide (g = h)) W := by
  unfold Hl.v
  rw [run_equalIn_struct W (d + 3) 33 _ _ (by kernel_rfl) (by kernel_rfl)]
  simp only [Program.fieldsOf, Tryd.underlying33]
  have e : decide (g = h) = (decide (g.id = h.id) && (decide (g.once = h.once) && (decide (g.pre = h.pre) && true))) := by
    rw [Bool.and_true, ← Bool.decide_and, ← Bool.decide_and]
    apply decide_eq_decide.2
    cases g; cases h; simp
  rw [e]
  refine eqF_cons (by decide) (part_row (a := []) Tryd.isAgg23 (sz23 kg.i) rfl rfl W) (part_row (a := []) Tryd.isAgg23 (sz23 kh.i) rfl rfl W) (arrD 23 32 u23 _ _ kg.i kh.i (d + 1) W) ?_; refine eqF_cons (by decide) (part_row (a := g.id.map byt) Tryd.isAgg23 (sz23 kg.o) rfl (by rw [List.length_map]; exact kg.i) W) (part_row (a := h.id.map byt) Tryd.isAgg23 (sz23 kh.o) rfl (by rw [List.length_map]; exact kh.i) W) (arrD 23 32 u23 _ _ kg.o kh.o (d + 1) W) ?_; refine eqF_cons (by decide) (part_one (a := g.id.map byt ++ g.once.map byt) (b := []) Tryd.isAgg26 (by simp [Hl.cs]) (by simp [kg.i, kg.o]) W) (part_one (a := h.id.map byt ++ h.once.map byt) (b := []) Tryd.isAgg26 (by simp [Hl.cs]) (by simp [kh.i, kh.o]) W) (eqU (d + 2) _ _ W) ?_
  exact eqF_nil _ _ _ _
theorem eqAn (g h : An) (kg : g.ok) (kh : h.ok) (W : World) : (Op.equalIn 10000 35 g.v h.v).run Tryd.prog W = .ok (decide (g = h)) W := by
  unfold An.v
  rw [run_equalIn_struct W 9999 35 _ _ (by kernel_rfl) (by kernel_rfl)]
  simp only [Program.fieldsOf, Tryd.underlying35]
  have e : decide (g = h) = (decide (g.s = h.s) && (decide (g.i = h.i) && (decide (g.b = h.b) && (decide (g.h = h.h) && (decide (g.e = h.e) && true))))) := by
    rw [Bool.and_true, ← Bool.decide_and, ← Bool.decide_and, ← Bool.decide_and, ← Bool.decide_and]
    apply decide_eq_decide.2
    cases g; cases h; simp
  rw [e]
  refine eqF_cons (by decide) (part_row (a := []) Tryd.isAgg23 (sz23 kg.s) rfl rfl W) (part_row (a := []) Tryd.isAgg23 (sz23 kh.s) rfl rfl W) (arrD 23 32 u23 _ _ kg.s kh.s 9997 W) ?_; refine eqF_cons (by decide) (part_row (a := g.s.map byt) Tryd.isAgg30 (sz30 kg.i) rfl (by simp [kg.s]) W) (part_row (a := h.s.map byt) Tryd.isAgg30 (sz30 kh.i) rfl (by simp [kh.s]) W) (arrD 30 16 u30 _ _ kg.i kh.i 9997 W) ?_; refine eqF_cons (by decide) (part_row (a := g.s.map byt ++ g.i.map byt) (b := g.h.cs ++ [.int .i64 g.e]) Tryd.isAgg31 (sz31 kg.b) (by simp [An.cs]) (by simp [kg.s, kg.i]) W) (part_row (a := h.s.map byt ++ h.i.map byt) (b := h.h.cs ++ [.int .i64 h.e]) Tryd.isAgg31 (sz31 kh.b) (by simp [An.cs]) (by simp [kh.s, kh.i]) W) (arrD 31 64 u31 _ _ kg.b kh.b 9997 W) ?_; refine eqF_cons (by decide) (part_row (a := g.s.map byt ++ (g.i.map byt ++ g.b.map byt)) (b := [.int .i64 g.e]) Tryd.isAgg33 (sz33 kg.h) (by simp [An.cs]) (by simp [kg.s, kg.i, kg.b]) W) (part_row (a := h.s.map byt ++ (h.i.map byt ++ h.b.map byt)) (b := [.int .i64 h.e]) Tryd.isAgg33 (sz33 kh.h) (by simp [An.cs]) (by simp [kh.s, kh.i, kh.b]) W) (eqHld 9995 _ _ kg.h kh.h W) ?_; refine eqF_cons (by decide) (part_one (a := g.s.map byt ++ (g.i.map byt ++ (g.b.map byt ++ g.h.cs))) (b := []) Tryd.isAgg3 (by simp [An.cs]) (by simp [kg.s, kg.i, kg.b, Hl.len kg.h]) W) (part_one (a := h.s.map byt ++ (h.i.map byt ++ (h.b.map byt ++ h.h.cs))) (b := []) Tryd.isAgg3 (by simp [An.cs]) (by simp [kh.s, kh.i, kh.b, Hl.len kh.h]) W) (eqI 9998 _ _ W) ?_
  exact eqF_nil _ _ _ _
theorem eql35 (g h : An) (kg : g.ok) (kh : h.ok) (W : World) (x y : Operand) : (do eqGuard .eql 35 x y g.v h.v; binOp .eql 35 g.v h.v : Sem Value).run Tryd.prog W = .ok (.bool (decide (g = h))) W := by
  have he := eqAn g h kg kh W
  have hg : Tryd.prog.eqGuardType Tryd.prog.depth 35 = false := by kernel_rfl
  unfold An.v at *
  rw [Sem.run_bind, run_eqGuard_agg W .eql 35 x y _ _ hg, Result.andThen_ok, run_eql_struct, he, Result.andThen_ok]
end Go.Proofs.YtoceepmehmacbaaDoor
