import Derived.Test.YtoceepmehmacbaaDoorGeG
set_option linter.unusedVariables false
set_option linter.unusedSimpArgs false
namespace Go.Proofs.YtoceepmehmacbaaDoor
open Go.RowKit

theorem res_ccg {P : Program} {fn : Func} {p0 p1 : Tmp} {t0 t1 : TypeId} (h : fn.results = #[.cell p0 t0, .cell p1 t1]) (tmps : Array Value) (w : World) (g0 g1 : Nat) (s0 s1 : TypeId) (c0 c1 : List Value) (d0 d1 : TypeDesc) (hp0 : tmps.getD p0 undef = .pointer (some ⟨g0, 0, none⟩)) (hg0 : Blk w g0 c0 s0) (hu0 : P.underlying t0 = some d0) (hd0 : d0.isRow = true) (hi0 : (P.info? t0).map (·.size) = some c0.length) (hp1 : tmps.getD p1 undef = .pointer (some ⟨g1, 0, none⟩)) (hg1 : Blk w g1 c1 s1) (hu1 : P.underlying t1 = some d1) (hd1 : d1.isRow = true) (hi1 : (P.info? t1).map (·.size) = some c1.length) : (results fn tmps).run P w = .ok (.tuple #[.agg c0.toArray, .agg c1.toArray]) w := by
  have e0 : tmps[p0]?.getD undef = .pointer (some ⟨g0, 0, none⟩) := by simpa using hp0
  have r0 := run_loadVar_row w g0 s0 t0 c0.toArray (0, 0) d0 hg0 hu0 (by cases d0 <;> simp [TypeDesc.isRow] at hd0 ⊢) (by simpa using hi0)
  have e1 : tmps[p1]?.getD undef = .pointer (some ⟨g1, 0, none⟩) := by simpa using hp1
  have r1 := run_loadVar_row w g1 s1 t1 c1.toArray (0, 0) d1 hg1 hu1 (by cases d1 <;> simp [TypeDesc.isRow] at hd1 ⊢) (by simpa using hi1)
  simp [results, h, e0, e1, asAddr, r0, r1]
theorem EW.ret_cc {n : Nat} {e : List (Nat × Value)} {w : World} {fn : Func} {R : Ending → World → Prop} {p0 p1 : Nat} {t0 s0 t1 s1 : TypeId} {g0 g1 : Nat} {c0 c1 : List Value} {d0 d1 : TypeDesc} (hres : fn.results = #[.cell p0 t0, .cell p1 t1]) (hv0 : e.lookup p0 = some (.pointer (some ⟨g0, 0, none⟩))) (hv1 : e.lookup p1 = some (.pointer (some ⟨g1, 0, none⟩))) (hg0 : Blk w g0 c0 s0) (hg1 : Blk w g1 c1 s1) (hu0 : Tryd.prog.underlying t0 = some d0) (hd0 : d0.isRow = true) (hi0 : (Tryd.prog.info? t0).map (·.size) = some c0.length) (hu1 : Tryd.prog.underlying t1 = some d1) (hd1 : d1.isRow = true) (hi1 : (Tryd.prog.info? t1).map (·.size) = some c1.length) (h : R (.returned (.tuple #[.agg c0.toArray, .agg c1.toArray])) w) : ∀ a, Env n a e → bodyPost Tryd.prog fn R .ret a w := fun a ha =>
  bodyPost_ret (res_ccg hres a.tmps w g0 g1 s0 s1 c0 c1 d0 d1 (ha.kn p0 _ hv0) hg0 hu0 hd0 hi0 (ha.kn p1 _ hv1) hg1 hu1 hd1 hi1) ha.df h
theorem res_cctg {P : Program} {fn : Func} {p0 p1 x : Tmp} {t0 t1 : TypeId} (h : fn.results = #[.cell p0 t0, .cell p1 t1, .tmp x]) (tmps : Array Value) (w : World) (g0 g1 : Nat) (s0 s1 : TypeId) (c0 c1 : List Value) (d0 d1 : TypeDesc) (v : Value) (hp0 : tmps.getD p0 undef = .pointer (some ⟨g0, 0, none⟩)) (hg0 : Blk w g0 c0 s0) (hu0 : P.underlying t0 = some d0) (hd0 : d0.isRow = true) (hi0 : (P.info? t0).map (·.size) = some c0.length) (hp1 : tmps.getD p1 undef = .pointer (some ⟨g1, 0, none⟩)) (hg1 : Blk w g1 c1 s1) (hu1 : P.underlying t1 = some d1) (hd1 : d1.isRow = true) (hi1 : (P.info? t1).map (·.size) = some c1.length) (hv : tmps.getD x undef = v) : (results fn tmps).run P w = .ok (.tuple #[.agg c0.toArray, .agg c1.toArray, v]) w := by
  have e0 : tmps[p0]?.getD undef = .pointer (some ⟨g0, 0, none⟩) := by simpa using hp0
  have r0 := run_loadVar_row w g0 s0 t0 c0.toArray (0, 0) d0 hg0 hu0 (by cases d0 <;> simp [TypeDesc.isRow] at hd0 ⊢) (by simpa using hi0)
  have e1 : tmps[p1]?.getD undef = .pointer (some ⟨g1, 0, none⟩) := by simpa using hp1
  have r1 := run_loadVar_row w g1 s1 t1 c1.toArray (0, 0) d1 hg1 hu1 (by cases d1 <;> simp [TypeDesc.isRow] at hd1 ⊢) (by simpa using hi1)
  have ex : tmps[x]?.getD undef = v := by simpa using hv
  simp [results, h, e0, e1, ex, asAddr, r0, r1]
theorem EW.ret_cct {n : Nat} {e : List (Nat × Value)} {w : World} {fn : Func} {R : Ending → World → Prop} {p0 p1 x : Nat} {t0 s0 t1 s1 : TypeId} {g0 g1 : Nat} {c0 c1 : List Value} {d0 d1 : TypeDesc} {v : Value} (hres : fn.results = #[.cell p0 t0, .cell p1 t1, .tmp x]) (hv0 : e.lookup p0 = some (.pointer (some ⟨g0, 0, none⟩))) (hv1 : e.lookup p1 = some (.pointer (some ⟨g1, 0, none⟩))) (hx : e.lookup x = some v) (hg0 : Blk w g0 c0 s0) (hg1 : Blk w g1 c1 s1) (hu0 : Tryd.prog.underlying t0 = some d0) (hd0 : d0.isRow = true) (hi0 : (Tryd.prog.info? t0).map (·.size) = some c0.length) (hu1 : Tryd.prog.underlying t1 = some d1) (hd1 : d1.isRow = true) (hi1 : (Tryd.prog.info? t1).map (·.size) = some c1.length) (h : R (.returned (.tuple #[.agg c0.toArray, .agg c1.toArray, v])) w) : ∀ a, Env n a e → bodyPost Tryd.prog fn R .ret a w := fun a ha =>
  bodyPost_ret (res_cctg hres a.tmps w g0 g1 s0 s1 c0 c1 d0 d1 v (ha.kn p0 _ hv0) hg0 hu0 hd0 hi0 (ha.kn p1 _ hv1) hg1 hu1 hd1 hi1 (ha.kn x _ hx)) ha.df h
theorem res_ccctg {P : Program} {fn : Func} {p0 p1 p2 x : Tmp} {t0 t1 t2 : TypeId} (h : fn.results = #[.cell p0 t0, .cell p1 t1, .cell p2 t2, .tmp x]) (tmps : Array Value) (w : World) (g0 g1 g2 : Nat) (s0 s1 s2 : TypeId) (c0 c1 c2 : List Value) (d0 d1 d2 : TypeDesc) (v : Value) (hp0 : tmps.getD p0 undef = .pointer (some ⟨g0, 0, none⟩)) (hg0 : Blk w g0 c0 s0) (hu0 : P.underlying t0 = some d0) (hd0 : d0.isRow = true) (hi0 : (P.info? t0).map (·.size) = some c0.length) (hp1 : tmps.getD p1 undef = .pointer (some ⟨g1, 0, none⟩)) (hg1 : Blk w g1 c1 s1) (hu1 : P.underlying t1 = some d1) (hd1 : d1.isRow = true) (hi1 : (P.info? t1).map (·.size) = some c1.length) (hp2 : tmps.getD p2 undef = .pointer (some ⟨g2, 0, none⟩)) (hg2 : Blk w g2 c2 s2) (hu2 : P.underlying t2 = some d2) (hd2 : d2.isRow = true) (hi2 : (P.info? t2).map (·.size) = some c2.length) (hv : tmps.getD x undef = v) : (results fn tmps).run P w = .ok (.tuple #[.agg c0.toArray, .agg c1.toArray, .agg c2.toArray, v]) w := by
  have e0 : tmps[p0]?.getD undef = .pointer (some ⟨g0, 0, none⟩) := by simpa using hp0
  have r0 := run_loadVar_row w g0 s0 t0 c0.toArray (0, 0) d0 hg0 hu0 (by cases d0 <;> simp [TypeDesc.isRow] at hd0 ⊢) (by simpa using hi0)
  have e1 : tmps[p1]?.getD undef = .pointer (some ⟨g1, 0, none⟩) := by simpa using hp1
  have r1 := run_loadVar_row w g1 s1 t1 c1.toArray (0, 0) d1 hg1 hu1 (by cases d1 <;> simp [TypeDesc.isRow] at hd1 ⊢) (by simpa using hi1)
  have e2 : tmps[p2]?.getD undef = .pointer (some ⟨g2, 0, none⟩) := by simpa using hp2
  have r2 := run_loadVar_row w g2 s2 t2 c2.toArray (0, 0) d2 hg2 hu2 (by cases d2 <;> simp [TypeDesc.isRow] at hd2 ⊢) (by simpa using hi2)
  have ex : tmps[x]?.getD undef = v := by simpa using hv
  simp [results, h, e0, e1, e2, ex, asAddr, r0, r1, r2]
theorem EW.ret_ccct {n : Nat} {e : List (Nat × Value)} {w : World} {fn : Func} {R : Ending → World → Prop} {p0 p1 p2 x : Nat} {t0 s0 t1 s1 t2 s2 : TypeId} {g0 g1 g2 : Nat} {c0 c1 c2 : List Value} {d0 d1 d2 : TypeDesc} {v : Value} (hres : fn.results = #[.cell p0 t0, .cell p1 t1, .cell p2 t2, .tmp x]) (hv0 : e.lookup p0 = some (.pointer (some ⟨g0, 0, none⟩))) (hv1 : e.lookup p1 = some (.pointer (some ⟨g1, 0, none⟩))) (hv2 : e.lookup p2 = some (.pointer (some ⟨g2, 0, none⟩))) (hx : e.lookup x = some v) (hg0 : Blk w g0 c0 s0) (hg1 : Blk w g1 c1 s1) (hg2 : Blk w g2 c2 s2) (hu0 : Tryd.prog.underlying t0 = some d0) (hd0 : d0.isRow = true) (hi0 : (Tryd.prog.info? t0).map (·.size) = some c0.length) (hu1 : Tryd.prog.underlying t1 = some d1) (hd1 : d1.isRow = true) (hi1 : (Tryd.prog.info? t1).map (·.size) = some c1.length) (hu2 : Tryd.prog.underlying t2 = some d2) (hd2 : d2.isRow = true) (hi2 : (Tryd.prog.info? t2).map (·.size) = some c2.length) (h : R (.returned (.tuple #[.agg c0.toArray, .agg c1.toArray, .agg c2.toArray, v])) w) : ∀ a, Env n a e → bodyPost Tryd.prog fn R .ret a w := fun a ha =>
  bodyPost_ret (res_ccctg hres a.tmps w g0 g1 g2 s0 s1 s2 c0 c1 c2 d0 d1 d2 v (ha.kn p0 _ hv0) hg0 hu0 hd0 hi0 (ha.kn p1 _ hv1) hg1 hu1 hd1 hi1 (ha.kn p2 _ hv2) hg2 hu2 hd2 hi2 (ha.kn x _ hx)) ha.df h
theorem res_cccctg {P : Program} {fn : Func} {p0 p1 p2 p3 x : Tmp} {t0 t1 t2 t3 : TypeId} (h : fn.results = #[.cell p0 t0, .cell p1 t1, .cell p2 t2, .cell p3 t3, .tmp x]) (tmps : Array Value) (w : World) (g0 g1 g2 g3 : Nat) (s0 s1 s2 s3 : TypeId) (c0 c1 c2 c3 : List Value) (d0 d1 d2 d3 : TypeDesc) (v : Value) (hp0 : tmps.getD p0 undef = .pointer (some ⟨g0, 0, none⟩)) (hg0 : Blk w g0 c0 s0) (hu0 : P.underlying t0 = some d0) (hd0 : d0.isRow = true) (hi0 : (P.info? t0).map (·.size) = some c0.length) (hp1 : tmps.getD p1 undef = .pointer (some ⟨g1, 0, none⟩)) (hg1 : Blk w g1 c1 s1) (hu1 : P.underlying t1 = some d1) (hd1 : d1.isRow = true) (hi1 : (P.info? t1).map (·.size) = some c1.length) (hp2 : tmps.getD p2 undef = .pointer (some ⟨g2, 0, none⟩)) (hg2 : Blk w g2 c2 s2) (hu2 : P.underlying t2 = some d2) (hd2 : d2.isRow = true) (hi2 : (P.info? t2).map (·.size) = some c2.length) (hp3 : tmps.getD p3 undef = .pointer (some ⟨g3, 0, none⟩)) (hg3 : Blk w g3 c3 s3) (hu3 : P.underlying t3 = some d3) (hd3 : d3.isRow = true) (hi3 : (P.info? t3).map (·.size) = some c3.length) (hv : tmps.getD x undef = v) : (results fn tmps).run P w = .ok (.tuple #[.agg c0.toArray, .agg c1.toArray, .agg c2.toArray, .agg c3.toArray, v]) w := by
  have e0 : tmps[p0]?.getD undef = .pointer (some ⟨g0, 0, none⟩) := by simpa using hp0
  have r0 := run_loadVar_row w g0 s0 t0 c0.toArray (0, 0) d0 hg0 hu0 (by cases d0 <;> simp [TypeDesc.isRow] at hd0 ⊢) (by simpa using hi0)
  have e1 : tmps[p1]?.getD undef = .pointer (some ⟨g1, 0, none⟩) := by simpa using hp1
  have r1 := run_loadVar_row w g1 s1 t1 c1.toArray (0, 0) d1 hg1 hu1 (by cases d1 <;> simp [TypeDesc.isRow] at hd1 ⊢) (by simpa using hi1)
  have e2 : tmps[p2]?.getD undef = .pointer (some ⟨g2, 0, none⟩) := by simpa using hp2
  have r2 := run_loadVar_row w g2 s2 t2 c2.toArray (0, 0) d2 hg2 hu2 (by cases d2 <;> simp [TypeDesc.isRow] at hd2 ⊢) (by simpa using hi2)
  have e3 : tmps[p3]?.getD undef = .pointer (some ⟨g3, 0, none⟩) := by simpa using hp3
  have r3 := run_loadVar_row w g3 s3 t3 c3.toArray (0, 0) d3 hg3 hu3 (by cases d3 <;> simp [TypeDesc.isRow] at hd3 ⊢) (by simpa using hi3)
  have ex : tmps[x]?.getD undef = v := by simpa using hv
  simp [results, h, e0, e1, e2, e3, ex, asAddr, r0, r1, r2, r3]
theorem EW.ret_cccct {n : Nat} {e : List (Nat × Value)} {w : World} {fn : Func} {R : Ending → World → Prop} {p0 p1 p2 p3 x : Nat} {t0 s0 t1 s1 t2 s2 t3 s3 : TypeId} {g0 g1 g2 g3 : Nat} {c0 c1 c2 c3 : List Value} {d0 d1 d2 d3 : TypeDesc} {v : Value} (hres : fn.results = #[.cell p0 t0, .cell p1 t1, .cell p2 t2, .cell p3 t3, .tmp x]) (hv0 : e.lookup p0 = some (.pointer (some ⟨g0, 0, none⟩))) (hv1 : e.lookup p1 = some (.pointer (some ⟨g1, 0, none⟩))) (hv2 : e.lookup p2 = some (.pointer (some ⟨g2, 0, none⟩))) (hv3 : e.lookup p3 = some (.pointer (some ⟨g3, 0, none⟩))) (hx : e.lookup x = some v) (hg0 : Blk w g0 c0 s0) (hg1 : Blk w g1 c1 s1) (hg2 : Blk w g2 c2 s2) (hg3 : Blk w g3 c3 s3) (hu0 : Tryd.prog.underlying t0 = some d0) (hd0 : d0.isRow = true) (hi0 : (Tryd.prog.info? t0).map (·.size) = some c0.length) (hu1 : Tryd.prog.underlying t1 = some d1) (hd1 : d1.isRow = true) (hi1 : (Tryd.prog.info? t1).map (·.size) = some c1.length) (hu2 : Tryd.prog.underlying t2 = some d2) (hd2 : d2.isRow = true) (hi2 : (Tryd.prog.info? t2).map (·.size) = some c2.length) (hu3 : Tryd.prog.underlying t3 = some d3) (hd3 : d3.isRow = true) (hi3 : (Tryd.prog.info? t3).map (·.size) = some c3.length) (h : R (.returned (.tuple #[.agg c0.toArray, .agg c1.toArray, .agg c2.toArray, .agg c3.toArray, v])) w) : ∀ a, Env n a e → bodyPost Tryd.prog fn R .ret a w := fun a ha =>
  bodyPost_ret (res_cccctg hres a.tmps w g0 g1 g2 g3 s0 s1 s2 s3 c0 c1 c2 c3 d0 d1 d2 d3 v (ha.kn p0 _ hv0) hg0 hu0 hd0 hi0 (ha.kn p1 _ hv1) hg1 hu1 hd1 hi1 (ha.kn p2 _ hv2) hg2 hu2 hd2 hi2 (ha.kn p3 _ hv3) hg3 hu3 hd3 hi3 (ha.kn x _ hx)) ha.df h
def firstB : List UInt8 := [108, 101, 116, 104, 101, 32, 102, 105, 114, 115, 116]
def firstV : List (Nat × Value) := [(0, .int .u8 108), (1, .int .u8 101), (2, .int .u8 116), (3, .int .u8 104), (4, .int .u8 101), (5, .int .u8 32), (6, .int .u8 102), (7, .int .u8 105), (8, .int .u8 114), (9, .int .u8 115), (10, .int .u8 116)]
theorem bsl11 (w : World) : (Instr.buildSlice 40 11 firstV.toArray).run Tryd.prog w = .ok (.slice (some ⟨w.heap.size, 0, none⟩) 11 11) (w.alloc (.cells (firstB.map byt).toArray 5)) := by
  unfold firstV
  go_simp
  try simp
  try rfl
theorem conv11 (W : World) : (Go.convert 40 40 (.slice (some ⟨W.heap.size, 0, none⟩) 11 11)).run Tryd.prog (W.alloc (.cells (firstB.map byt).toArray 5)) = .ok (.slice (some ⟨W.heap.size, 0, none⟩) 11 11) (W.alloc (.cells (firstB.map byt).toArray 5 (11, 12))) :=
  Lib.run_convert_bytes_const W 40 5 _ 11 11 Tryd.underlying40 Tryd.underlying5
theorem run_mk40 (w : World) (l : Nat) (h : l ≤ 100000) : (Instr.makeSlice 40 (.int .i64 (l : Int)) (.int .i64 (l : Int))).run Tryd.prog w = .ok (.slice (some ⟨w.heap.size, 0, none⟩) l l) (w.alloc (.cells ((List.replicate l (0 : UInt8)).map byt).toArray 5)) := by
  obtain ⟨i0, hi, hz0, hz1, hz2⟩ := info_parts Tryd.info5
  have hrun := run_make (P := Tryd.prog) w 40 5 i0 (.int .u8 0) Tryd.underlying40 hi hz0 .i64 .i64 l l (by omega) (by omega) (by rw [hz2]; omega) (by omega)
  rw [hz1, Int.toNat_natCast, Nat.mul_one, made_zeros] at hrun
  exact hrun
theorem bsl95_4 (v0 v1 v2 v3 : Value) (h0 : ∃ a n c, v0 = .slice a n c) (h1 : ∃ a n c, v1 = .slice a n c) (h2 : ∃ a n c, v2 = .slice a n c) (h3 : ∃ a n c, v3 = .slice a n c) (w : World) : (Instr.buildSlice 95 4 [(0, v0), (1, v1), (2, v2), (3, v3)].toArray).run Tryd.prog w = .ok (.slice (some ⟨w.heap.size, 0, none⟩) 4 4) (w.alloc (.cells #[v0, v1, v2, v3] 40)) := by
  obtain ⟨_, _, _, rfl⟩ := h0
  obtain ⟨_, _, _, rfl⟩ := h1
  obtain ⟨_, _, _, rfl⟩ := h2
  obtain ⟨_, _, _, rfl⟩ := h3
  go_simp
  try simp
  try rfl
def ff32 : List UInt8 := List.replicate 32 255
theorem new30 (w : World) : ∃ w1 q, (Instr.alloc 30 true (.tuple #[])).run Tryd.prog w = .ok (.pointer (some ⟨q, 0, none⟩)) w1 ∧ Blk w1 q (z16.map byt) 30 ∧ Below w.heap.size w w1 ∧ q = w.heap.size := newA zv30 w
theorem st30 {w : World} {q : Nat} {old K : List UInt8} {t : TypeId} (hb : Blk w q (old.map byt) t) (ho : old.length = 16) (hK : K.length = 16) : ∃ w', (Instr.storeAt 30 (.pointer (some ⟨q, 0, none⟩)) (kv K)).run Tryd.prog w = .ok () w' ∧ Blk w' q (K.map byt) t ∧ Fx (fun k => k = q) w w' :=
  ⟨_, run_storeR hb (i30 hK) (by rw [List.length_map, List.length_map, ho, hK]) (bytsOne K), hb.setRow _, Fx.setRow w q _ rfl⟩
theorem cutH48 (g : Nat) (W : World) : (Instr.sliceAt 40 (.slice (some ⟨g, 0, none⟩) 48 48) none (some (.int .i64 32)) none).run Tryd.prog W = .ok (.slice (some ⟨g, 0, none⟩) 32 48) W := by
  go_simp
  try simp
  try rw [add_plain]
theorem cutL48 (g : Nat) (W : World) : (Instr.sliceAt 40 (.slice (some ⟨g, 0, none⟩) 48 48) (some (.int .i64 32)) none none).run Tryd.prog W = .ok (.slice (some ⟨g, 32, none⟩) 16 16) W := by
  go_simp
  try simp
  try rw [add_plain]
theorem s2a16 (g o n c : Nat) (h : 16 ≤ n) (W : World) : (Instr.arrayAt 30 (.slice (some ⟨g, o, none⟩) n c)).run Tryd.prog W = .ok (.pointer (some ⟨g, o, none⟩)) W := by
  have h' : ¬ n < 16 := by omega
  unfold Instr.arrayAt
  go_simp
  try simp
theorem prtA {W : World} {g : Nat} {X : List UInt8} {t : TypeId} (h : Blk W g (X.map byt) t) (hX : X.length = 48) : (Instr.loadAt 23 (.pointer (some ⟨g, 0, none⟩))).run Tryd.prog W = .ok (kv (X.take 32)) W :=
  h.ldA (a := []) (m := (X.take 32).map byt) (b := (X.drop 32).map byt) u23 rfl (i23 (by rw [List.length_take, hX]; decide)) (by rw [← List.map_append, List.take_append_drop]; rfl) rfl
theorem prtB {W : World} {g : Nat} {X : List UInt8} {t : TypeId} (h : Blk W g (X.map byt) t) (hX : X.length = 48) : (Instr.loadAt 30 (.pointer (some ⟨g, 32, none⟩))).run Tryd.prog W = .ok (kv (X.drop 32)) W :=
  h.ldA (a := (X.take 32).map byt) (m := (X.drop 32).map byt) (b := []) u30 rfl (i30 (by rw [List.length_drop, hX])) (by rw [List.append_nil, ← List.map_append, List.take_append_drop]) (by rw [List.length_map, List.length_take, hX]; decide)
/-- What is made of three shared secrets. -/
def madeL (x y z : List UInt8) : List UInt8 := exOut (macOf z32 (ff32 ++ (x ++ (y ++ z)))) firstB 48
theorem madeL_len (x y z : List UInt8) : (madeL x y z).length = 48 := exOut_length _ _ _
set_option maxRecDepth 100000 in
set_option maxHeartbeats 1000000 in
theorem derived_any (x y z X : List UInt8) (hx : x.length = 32) (hy : y.length = 32) (hz : z.length = 32) (hX : exOut (macOf z32 (ff32 ++ (x ++ (y ++ z)))) firstB 48 = X) (w : World) (hS : Kst w) : Calls Tryd.prog 33 #[kv x, kv y, kv z] w fun e w' => e = .returned (.tuple #[kv (X.take 32), kv (X.drop 32)]) ∧ Below w.heap.size w w' := by
  have hXl : X.length = 48 := by rw [← hX]; exact exOut_length _ _ _
  obtain ⟨w1, q1, r1, b1, l1, hq1⟩ := box23 x w
  obtain ⟨w2, q2, r2, b2, l2, hq2⟩ := box23 y w1
  obtain ⟨w3, q3, r3, b3, l3, hq3⟩ := box23 z w2
  obtain ⟨w4, p4, r4, b4, l4, hp4⟩ := new23 w3
  obtain ⟨w5, p5, r5, b5, l5, hp5⟩ := new30 w4
  have hS5 := ((((hS.on l1).on l2).on l3).on l4).on l5
  have c1 := (((b1.on l2).on l3).on l4).on l5
  have c2 := ((b2.on l3).on l4).on l5
  have c3 := (b3.on l4).on l5
  have L5 := bt (bt (bt (bt l1 l2) l3) l4) l5
  have hne : p4 ≠ p5 := by have := b4.lt; omega
  have hXa : (X.take 32).length = 32 := by rw [List.length_take, hXl]; decide
  have hXb : (X.drop 32).length = 16 := by rw [List.length_drop, hXl]
  refine calls_of_args [kv x, kv y, kv z] Tryd.func33 rfl 34 Tryd.ntmps33 (by show 3 ≤ 34; decide) ?_; refine EW.seq ?_; refine EW.region ?_; refine WL.box rfl rfl rfl r1 ?_; refine WL.box rfl rfl rfl r2 ?_; refine WL.box rfl rfl rfl r3 ?_; refine WL.new rfl rfl r4 ?_; refine WL.new rfl rfl r5 ?_; refine WL.done ?_; refine EW.on ?_; refine EW.seq ?_; refine EW.ordB [(2, 0, 0), (3, 0, 0), (4, 0, 0), (0, 1, 1), (1, 1, 1), (5, 1, 1), (6, 1, 1), (7, 0, 0)] (by kernel_rfl) rfl (by kernel_rfl) ?_; simp only [opsZ, List.getD_cons_zero, List.getD_cons_succ]; refine ZE.slice0 rfl rfl rfl rfl (fun W h => .inl rfl) (fun W => sl23 _ W) ?_; refine ZE.slice0 rfl rfl rfl rfl (fun W h => .inl rfl) (fun W => sl23 _ W) ?_; refine ZE.slice0 rfl rfl rfl rfl (fun W h => .inl rfl) (fun W => sl23 _ W) ?_; refine ZE.bsl [(0, .int .u8 255)] (fun v W' => Has W' v [255] ∧ Below w5.heap.size w5 W') rfl rfl rfl (fun v W' h => .inr h.2) (fun W hW => ⟨_, _, bsl1 255 W, has_new1 W 255, bt hW (below_new _ _)⟩) ?_
  rintro vi ⟨_, _, _⟩
  refine ZE.callR [vi, .int .i64 32] (fun v W' => Has W' v ff32 ∧ Below w5.heap.size w5 W') enter50 rfl rfl rfl (fun v W' h => .inr h.2) (fun W hW => (repeat_any vi 255 W hW.1).mono fun e w' ⟨g, h1, h2, h3⟩ => ⟨_, h1, h2, bt hW.2 h3⟩) ?_
  rintro vr ⟨_, hr0, _⟩
  obtain ⟨ar, cr, er⟩ := hr0.slice
  rw [show ff32.length = 32 from rfl] at er
  subst er
  refine ZE.bsl [(0, .slice ar 32 cr), (1, .slice (some ⟨q1, 0, none⟩) 32 32), (2, .slice (some ⟨q2, 0, none⟩) 32 32), (3, .slice (some ⟨q3, 0, none⟩) 32 32)] (fun v W' => Parts W' v [(.slice ar 32 cr, ff32), (.slice (some ⟨q1, 0, none⟩) 32 32, x), (.slice (some ⟨q2, 0, none⟩) 32 32, y), (.slice (some ⟨q3, 0, none⟩) 32 32, z)] ∧ Below w5.heap.size w5 W') rfl rfl rfl (fun v W' h => .inr h.2) (fun W hW => ⟨_, _, bsl95_4 _ _ _ _ ⟨_, _, _, rfl⟩ ⟨_, _, _, rfl⟩ ⟨_, _, _, rfl⟩ ⟨_, _, _, rfl⟩ W, ?_, bt hW.2 (below_new _ _)⟩) ?_
  · refine parts_new W [(.slice ar 32 cr, ff32), (.slice (some ⟨q1, 0, none⟩) 32 32, x), (.slice (some ⟨q2, 0, none⟩) 32 32, y), (.slice (some ⟨q3, 0, none⟩) 32 32, z)] (fun p hp => ?_)
    simp only [List.mem_cons, List.not_mem_nil, or_false] at hp
    rcases hp with rfl | rfl | rfl | rfl
    · exact hW.1
    · exact (c1.on hW.2).has 32 hx
    · exact (c2.on hW.2).has 32 hy
    · exact (c3.on hW.2).has 32 hz
  rintro vp ⟨_, _, _⟩
  refine ZE.callR [vp] (fun v W' => Has W' v (ff32 ++ (x ++ (y ++ z))) ∧ Below w5.heap.size w5 W') enter49 rfl rfl rfl (fun v W' h => .inr h.2) (fun W hW => (concat_any vp _ (ff32 ++ (x ++ (y ++ z))) (by simp) W hW.1 (by simp [ff32]) (by simp [ff32, hx, hy, hz]) (by simp)).mono fun e w' ⟨u, h1, h2, h3⟩ => ⟨_, h1, h2, bt hW.2 h3⟩) ?_
  rintro vk ⟨_, _, _⟩
  refine ZE.assign rfl rfl rfl rfl (fun W h => .inl rfl) ?_
  rintro W6 ⟨hM, l6⟩
  refine EW.on ?_; refine EW.seq ?_; refine EW.region ?_
  have mk := run_mk40 W6 32 (by decide)
  have lm := below_new W6 (.cells ((List.replicate 32 (0 : UInt8)).map byt).toArray 5)
  have hs : Has (W6.alloc (.cells ((List.replicate 32 (0 : UInt8)).map byt).toArray 5)) (.slice (some ⟨W6.heap.size, 0, none⟩) 32 32) z32 := has_news W6 z32
  refine WL.mks rfl rfl rfl rfl mk ?_
  generalize W6.alloc (.cells ((List.replicate 32 (0 : UInt8)).map byt).toArray 5) = W7 at lm hs
  refine WL.move rfl rfl rfl ?_; refine WL.bslN firstV rfl rfl rfl (bsl11 W7) ?_; refine WL.conv rfl rfl rfl (conv11 W7) ?_
  have lf := below_new W7 (.cells (firstB.map byt).toArray 5 (11, 12))
  have hf : Has _ (.slice (some ⟨W7.heap.size, 0, none⟩) 11 11) firstB := has_newsM W7 firstB (11, 12) _ rfl
  generalize W7.alloc (.cells (firstB.map byt).toArray 5 (11, 12)) = W8 at lf hf
  have hd := derive_ok (.slice (some ⟨W6.heap.size, 0, none⟩) 32 32) vk (.slice (some ⟨W7.heap.size, 0, none⟩) 11 11) z32 (ff32 ++ (x ++ (y ++ z))) firstB 48 W8 (hs.below lf) ((hM.below lm).below lf) hf ((((hS5.on l6).on lm)).on lf) (by decide) (by simp [ff32, hx, hy, hz]) (by decide) (by decide)
  rw [hX] at hd
  refine WL.call [.slice (some ⟨W6.heap.size, 0, none⟩) 32 32, vk, .slice (some ⟨W7.heap.size, 0, none⟩) 11 11, .int .i64 48] enter9 rfl rfl rfl hd ?_
  rintro _ W9 ⟨g, rfl, tu⟩
  refine ⟨_, rfl, ?_⟩
  have l9 := bt (bt (bt l6 lm) lf) tu.be
  have d9 := tu.bl
  have hg9 : w5.heap.size ≤ g := by have := l6.size; have := lm.size; have := lf.size; have := tu.lp; omega
  refine WL.move rfl rfl rfl ?_; refine WL.extract rfl rfl rfl (ext_2 _ _ _).1 ?_; refine WL.extract rfl rfl rfl (ext_2 _ _ _).2 ?_; refine WL.assign rfl rfl rfl ?_; refine WL.assign rfl rfl rfl ?_; refine WL.done ?_; refine EW.on ?_; refine EW.seq ?_; refine EW.ordZ [(0, 0, 0), (1, 0, 0), (2, 0, 0), (3, 0, 1), (4, 0, 0), (5, 0, 0), (6, 0, 0), (7, 0, 1), (8, 1, 1), (9, 1, 0)] (SR fun W => Blk W g (X.map byt) 5) (fun W => Below W9.heap.size W9 W) (by kernel_rfl) rfl (by kernel_rfl) (sr_anti _) (below_drawn W9) ?_; simp only [opsZ, List.getD_cons_zero, List.getD_cons_succ]; refine ZE.move rfl rfl rfl rfl sr0 ?_; refine ZE.sliceH rfl rfl rfl rfl rfl sr0 (fun W => cutH48 g W) ?_; refine ZE.s2a rfl rfl rfl rfl sr0 (fun W => s2a g 0 _ _ (by decide) W) ?_; refine ZE.load rfl rfl rfl rfl (fun W h => .inr (d9.on h)) (fun W hW => prtA (sr_of hW) hXl) ?_; refine ZE.move rfl rfl rfl rfl sr0 ?_; refine ZE.sliceL rfl rfl rfl rfl rfl sr0 (fun W => cutL48 g W) ?_; refine ZE.s2a rfl rfl rfl rfl sr0 (fun W => s2a16 g 32 _ _ (by decide) W) ?_; refine ZE.load rfl rfl rfl rfl (fun W h => .inr (d9.on h)) (fun W hW => prtB (sr_of hW) hXl) ?_; refine ZE.store (fun W => Blk W g (X.map byt) 5 ∧ Blk W p4 ((X.take 32).map byt) 23 ∧ Blk W p5 (z16.map byt) 30 ∧ Below w.heap.size w W) rfl rfl rfl (fun _ h => .inr h.1) (fun W hW => ?_) ?_
  · obtain ⟨w', r, b, f⟩ := st23 (((b4.on l5).on l9).on hW) z32l hXa
    exact ⟨w', r, (d9.on hW).fx f (fun e => by have := (b4.on l5).lt; omega), b, ((b5.on l9).on hW).fx f (fun e => hne e.symm), bf (bt (bt L5 l9) hW) f (by have := l1.size; have := l2.size; have := l3.size; omega)⟩
  refine ZE.store (fun W => Blk W p4 ((X.take 32).map byt) 23 ∧ Blk W p5 ((X.drop 32).map byt) 30 ∧ Below w.heap.size w W) rfl rfl rfl (fun _ _ => .inl rfl) (fun W hW => ?_) ?_
  · obtain ⟨_, e2, e3, e4⟩ := hW
    obtain ⟨w', r, b, f⟩ := st30 e3 rfl hXb
    exact ⟨w', r, e2.fx f hne, b, bf e4 f (by have := l1.size; have := l2.size; have := l3.size; have := l4.size; omega)⟩
  rintro W10 ⟨e2, e3, e4⟩
  refine EW.on ?_; refine EW.ret ?_
  exact EW.ret_cc Tryd.results33 rfl rfl e2 e3 u23 rfl (i23 hXa) u30 rfl (i30 hXb) ⟨rfl, e4⟩
end Go.Proofs.YtoceepmehmacbaaDoor
