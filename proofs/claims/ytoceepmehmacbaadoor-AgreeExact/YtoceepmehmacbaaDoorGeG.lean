import Derived.Test.YtoceepmehmacbaaDoorGb
import Derived.Test.YtoceepmehmacbaaDoorKTms
import Derived.Lib.MakeNoZero
import Derived.Test.YtoceepmehmacbaaDoorRjG
import Derived.Lib.AppendZeros
set_option linter.unusedVariables false
set_option linter.unusedSimpArgs false
namespace Go.Proofs.YtoceepmehmacbaaDoor
open Go.RowKit

theorem shr_any (k u S : List UInt8) (hS : Cv.timesL k u = S) (hk : k.length = 32) (hu : u.length = 32) (w : World) : Calls Tryd.prog 8 #[kv k, kv u] w fun e w' => e = .returned (.tuple #[kv S, .int .i64 (if S = z32 then 70 else 0)]) ∧ Below w.heap.size w w' := by
  subst hS
  exact Cv.shared_walk k u hk hu w
set_option maxRecDepth 100000 in
theorem mul64_32 (w : World) : Calls Tryd.prog 71 #[.int .u64 1, .int .u64 32] w fun e w' => e = .returned (.tuple #[.int .u64 0, .int .u64 32]) ∧ w' = w :=
  Cv.mul64_any 1#64 32#64 w
set_option maxRecDepth 100000 in
theorem mul_32 (w : World) : Calls Tryd.prog 69 #[.int .u64 1, .int .u64 32] w fun e w' => e = .returned (.tuple #[.int .u64 0, .int .u64 32]) ∧ w' = w := by
  go_enter Tryd.func69, Tryd.ntmps69
  go_wp2_with (go_at_call 71; refine (mul64_32 _).mono ?_; rintro e w' ⟨rfl, rfl⟩)
  simp [bodyPost, results, Tryd.results69, go_sem]
theorem cpA {w : World} {p off n : Nat} {cs : List Value} {t : TypeId} (hb : Blk w p cs t) (hon : off + n ≤ cs.length) (cc : Nat) {v : Value} {bs : List UInt8} (hv : Has w v bs) (ty : TypeId) : ∃ w', (Builtin.copy_ #[40, 40] ty #[.slice (some ⟨p, off, none⟩) n cc, v]).run Tryd.prog w = .ok (.int .i64 ((min n bs.length : Nat) : Int)) w' ∧ Blk w' p (cs.take off ++ (bs.take n).map byt ++ cs.drop (off + (bs.take n).length)) t ∧ Fx (fun k => k = p) w w' := by
  have hl : (bs.take n).length = min n bs.length := List.length_take
  rcases hv with ⟨rfl, rfl⟩ | ⟨ad, cap, rfl, h2, h3⟩
  · have hrun := run_copy_none (P := Tryd.prog) w 40 40 ty 5 (some ⟨p, off, none⟩) none n cc 0 0 Tryd.underlying40 info5s (by simp)
    exact ⟨_, by rw [hrun]; simp [goInt], by simpa using hb, Fx.refl _ _⟩
  · have hrun := run_copy_cells (P := Tryd.prog) w 40 40 ty 5 p off n cc ad bs.length cap ((bs.take n).map byt) Tryd.underlying40 info5s (by rw [List.length_map, hl]; exact Nat.min_comm _ _)
      (fun j v hj => by
        rw [List.getElem?_map, Option.map_eq_some_iff] at hj
        obtain ⟨u, hu, rfl⟩ := hj
        have hjq : j < (bs.take n).length := (List.getElem?_eq_some_iff.1 hu).1
        rw [List.getElem?_take_of_lt (by omega)] at hu
        exact h3 j u hu)
      (fun j hj => by
        rw [List.length_map] at hj
        rw [hb.cell, List.getElem?_eq_getElem (by omega)]; rfl) (fun j _ => hb.frozen _) (byt_one _)
    rw [List.length_map, hl] at hrun
    refine ⟨_, hrun, ?_, Fx.setCells (S := fun k => k = p) p rfl _ _ _⟩
    have h := Blk.setCells ((bs.take n).map byt) off w cs hb (by rw [List.length_map]; omega)
    rw [List.length_map] at h
    exact h
section
variable {P : Program} {n : Nat} {ops : Array Oper} {Q : Exit → Act → World → Prop} {i : Nat} {ty : TypeId} {ps : String} {af : Array Edge} {gd : Option (Nat × Bool)} {r : List Oper} {e : List (Nat × Value)} {w w' : World}
theorem WL.copy {t s : TypeId} {x y : Operand} {u u' v : Value} (hw : wantE ops e ⟨some i, .call { callee := .builtin .copy, args := #[x, y], argTypes := #[t, s] }, ty, ps, af, gd⟩ = some true) (hi : decide (i < n) = true) (hx : evE e x = some u) (hy : evE e y = some u') (hr : (Builtin.copy_ #[t, s] ty #[u, u']).run P w = .ok v w') (k : WL P n ops Q r ((i, v) :: e) w') : WL P n ops Q (⟨some i, .call { callee := .builtin .copy, args := #[x, y], argTypes := #[t, s] }, ty, ps, af, gd⟩ :: r) e w :=
  WL.op i v hw rfl hi (fun a ha => by simp [execOp, resolve, invoke, builtin, ha.ev hx, ha.ev hy, hr, Result.andThen]) k
theorem WL.min {x y : Operand} {ts : Array TypeId} {u u' v : Value} (hw : wantE ops e ⟨some i, .call { callee := .builtin .min, args := #[x, y], argTypes := ts }, ty, ps, af, gd⟩ = some true) (hi : decide (i < n) = true) (hx : evE e x = some u) (hy : evE e y = some u') (hr : (Builtin.min_ ts ty #[u, u']).run P w = .ok v w) (k : WL P n ops Q r ((i, v) :: e) w) : WL P n ops Q (⟨some i, .call { callee := .builtin .min, args := #[x, y], argTypes := ts }, ty, ps, af, gd⟩ :: r) e w :=
  WL.op i v hw rfl hi (fun a ha => by simp [execOp, resolve, invoke, builtin, ha.ev hx, ha.ev hy, hr, Result.andThen]) k
theorem WL.slice3 {t : TypeId} {x y z : Operand} {u uy uz v : Value} (hw : wantE ops e ⟨some i, .slice t x none (some y) (some z), ty, ps, af, gd⟩ = some true) (hi : decide (i < n) = true) (hx : evE e x = some u) (hy : evE e y = some uy) (hz : evE e z = some uz) (hr : (Instr.sliceAt t u none (some uy) (some uz)).run P w = .ok v w) (k : WL P n ops Q r ((i, v) :: e) w) : WL P n ops Q (⟨some i, .slice t x none (some y) (some z), ty, ps, af, gd⟩ :: r) e w :=
  WL.op i v hw rfl hi (fun a ha => by simp [execOp, ha.ev hx, ha.ev hy, ha.ev hz, hr, Result.andThen]) k
theorem WL.callX {f : FuncId} {x : Operand} {ts : Array TypeId} {u v : Value} (hw : wantE ops e ⟨some i, .call { callee := .value (.func f), args := #[x], argTypes := ts }, ty, ps, af, gd⟩ = some true) (hi : decide (i < n) = true) (hx : evE e x = some u) (hr : (callFunc f #[u]).run P w = .ok (.value v) w') (k : WL P n ops Q r ((i, v) :: e) w') : WL P n ops Q (⟨some i, .call { callee := .value (.func f), args := #[x], argTypes := ts }, ty, ps, af, gd⟩ :: r) e w :=
  WL.op i v hw rfl hi (fun a ha => by
    have e1 : (execOp a.eval ⟨some i, .call { callee := .value (.func f), args := #[x], argTypes := ts }, ty, ps, af, gd⟩).run P w = (callFunc f #[a.eval x]).run P w := by
      simp [execOp, resolve, Deferred.ofValue, invoke, Act.eval]
    rw [e1, ha.ev hx, hr]) k
end
section
variable {P : Program} {n : Nat} {ops : Array Oper} {S : Nat → World → Prop} {K : List (Nat × Value) → (World → Prop) → Prop} {i c lv : Nat} {ty : TypeId} {ps : String} {af : Array Edge} {gd : Option (Nat × Bool)} {r : List (Oper × Nat × Nat)} {e : List (Nat × Value)} {C : World → Prop}
theorem ZE.copy {t s : TypeId} {x y : Operand} {u u' : Value} (C' : Value → World → Prop) (hw : wantE ops e ⟨some i, .call { callee := .builtin .copy, args := #[x, y], argTypes := #[t, s] }, ty, ps, af, gd⟩ = some true) (hi : decide (i < n) = true) (hx : evE e x = some u) (hy : evE e y = some u') (h1 : ∀ v w, C' v w → S lv w) (hr : ∀ w, C w → ∃ v w', (Builtin.copy_ #[t, s] ty #[u, u']).run P w = .ok v w' ∧ C' v w') (k : ∀ v, (∃ w, C' v w) → wpZE P n ops S K r ((i, v) :: e) (C' v)) : wpZE P n ops S K ((⟨some i, .call { callee := .builtin .copy, args := #[x, y], argTypes := #[t, s] }, ty, ps, af, gd⟩, 1, lv) :: r) e C :=
  ZE.eff C' hw hi h1 (fun W hW => by
    obtain ⟨v, w', h2, h3⟩ := hr W hW
    exact ⟨v, w', fun a ha => by simp [execOp, resolve, invoke, builtin, ha.ev hx, ha.ev hy, h2, Result.andThen], h3⟩) k
end
theorem cv91a (W : World) : (Go.convert 3 91 (.int .i64 1)).run Tryd.prog W = .ok (.int .u64 1) W := by
  go_simp
  rfl
theorem cv91b (W : World) : (Go.convert 3 91 (.int .i64 32)).run Tryd.prog W = .ok (.int .u64 32) W := by
  go_simp
  rfl
theorem cv91c (W : World) : (Go.convert 91 3 (.int .u64 32)).run Tryd.prog W = .ok (.int .i64 32) W := by
  go_simp
  rfl
theorem gtU1 (W : World) (x y : Operand) : (do eqGuard .gtr 91 x y (.int .u64 0) (.int .u64 0); binOp .gtr 91 (.int .u64 0) (.int .u64 0) : Sem Value).run Tryd.prog W = .ok (.bool false) W := by go_simp
theorem gtU2 (W : World) (x y : Operand) : (do eqGuard .gtr 91 x y (.int .u64 32) (.int .u64 9223372036854775807); binOp .gtr 91 (.int .u64 32) (.int .u64 9223372036854775807) : Sem Value).run Tryd.prog W = .ok (.bool false) W := by go_simp
theorem min33 (a b : Int) (h : a ≤ b) (ty : TypeId) (W : World) : (Builtin.min_ #[3, 3] ty #[.int .i64 a, .int .i64 b]).run Tryd.prog W = .ok (.int .i64 a) W := by
  by_cases hb : b < a
  · omega
  · go_simp
theorem nozero (n : Nat) (hn : n ≤ 1000) (w : World) : ∃ w' g cs, (callFunc 70 #[.int .i64 (n : Int)]).run Tryd.prog w = .ok (.value (.slice (some ⟨g, 0, none⟩) n (cs.length))) w' ∧ Blk w' g cs 5 ∧ n ≤ cs.length ∧ Below w.heap.size w w' ∧ g = w.heap.size := by
  obtain ⟨cs, h1, h2, _⟩ := Lib.run_makeNoZero (P := Tryd.prog) w #[3] 40 5 Tryd.underlying40 n (by omega)
  refine ⟨_, _, cs.toList, by rw [run_callFunc_extern Tryd.func70 (by kernel_rfl) (by kernel_rfl) (by kernel_rfl) (e := Extern.BytealgMakeNoZero.makeNoZero #[3] #[40]) (by kernel_rfl), h1]; rfl, ?_, by simpa using h2, ?_, rfl⟩
  · have := Blk.new w.drew.drew cs.toList 5
    simpa using this
  · have := below_new w.drew.drew (.cells cs 5)
    refine Below.trans (b := w.drew.drew) ?_ this
    exact ⟨rfl, rfl, rfl, Nat.le_refl _, fun _ _ => rfl⟩
def rpE (v : Value) (g m : Nat) : List (Nat × Value) := [(0, v), (7, .int .i64 32), (8, .int .i64 32), (9, .slice (some ⟨g, 0, none⟩) 32 32), (10, .int .i64 (m : Int))]
def RpI (b : UInt8) (w : World) (g L m : Nat) (W : World) : Prop := 1 ≤ m ∧ m ≤ 32 ∧ Below w.heap.size w W ∧ ∃ rest, Blk W g ((List.replicate m b).map byt ++ rest) 5 ∧ m + rest.length = L
theorem rp_has {W : World} {g m : Nat} {b : UInt8} {rest : List Value} {t : TypeId} (h : Blk W g ((List.replicate m b).map byt ++ rest) t) {c : Nat} (hc : m ≤ c) : Has W (.slice (some ⟨g, 0, none⟩) m c) (List.replicate m b) := by
  have := h.hasA (a := []) (K := List.replicate m b) (b := rest) rfl rfl c (by rw [List.length_replicate]; exact hc)
  rwa [List.length_replicate] at this
theorem rp_step {m : Nat} {b : UInt8} {rest : List Value} : ((List.replicate m b).map byt ++ rest).take m ++ ((List.replicate m b).take (32 - m)).map byt ++ ((List.replicate m b).map byt ++ rest).drop (m + ((List.replicate m b).take (32 - m)).length) = (List.replicate (m + min (32 - m) m) b).map byt ++ rest.drop (min (32 - m) m) := by
  have e1 : ((List.replicate m b).map byt ++ rest).take m = (List.replicate m b).map byt := by
    rw [List.take_append_of_le_length (by simp)]
    exact List.take_of_length_le (by simp)
  have e2 : (List.replicate m b).take (32 - m) = List.replicate (min (32 - m) m) b := List.take_replicate
  have e3 : ((List.replicate m b).map byt ++ rest).drop m = rest := List.drop_left' (by simp)
  rw [e1, e2, List.length_replicate, ← List.drop_drop, e3, ← List.map_append, List.replicate_append_replicate]
theorem cut3 (g c : Nat) (h : 32 ≤ c) (W : World) : (Instr.sliceAt 40 (.slice (some ⟨g, 0, none⟩) 32 c) none (some (.int .i64 32)) (some (.int .i64 32))).run Tryd.prog W = .ok (.slice (some ⟨g, 0, none⟩) 32 32) W := by
  have h' : (32 : Int) ≤ (c : Int) := by omega
  go_simp
  try simp
  try rw [add_plain]
  try simp
theorem cutL2 (g m : Nat) (h : m < 32) (W : World) : (Instr.sliceAt 40 (.slice (some ⟨g, 0, none⟩) 32 32) (some (.int .i64 (m : Int))) none none).run Tryd.prog W = .ok (.slice (some ⟨g, m, none⟩) (32 - m) (32 - m)) W := by
  have h' : (m : Int) ≤ 32 := by omega
  go_simp
  try simp
  try rw [add_plain]
  try simp
  try omega
theorem cutH2 (g m : Nat) (h : m ≤ 32) (W : World) : (Instr.sliceAt 40 (.slice (some ⟨g, 0, none⟩) 32 32) none (some (.int .i64 (m : Int))) none).run Tryd.prog W = .ok (.slice (some ⟨g, 0, none⟩) m 32) W := by
  have h' : (m : Int) ≤ 32 := by omega
  go_simp
  try simp
  try rw [add_plain]
  try simp
set_option maxRecDepth 100000 in
set_option maxHeartbeats 1000000 in
theorem repeat_any (v : Value) (b : UInt8) (w : World) (hv : Has w v [b]) : Calls Tryd.prog 50 #[v, .int .i64 32] w fun e w' => ∃ g, e = .returned (.slice (some ⟨g, 0, none⟩) 32 32) ∧ Has w' (.slice (some ⟨g, 0, none⟩) 32 32) (List.replicate 32 b) ∧ Below w.heap.size w w' := by
  refine calls_of_args [v, .int .i64 32] Tryd.func50 rfl 77 Tryd.ntmps50 (by show 2 ≤ 77; decide) ?_; refine EW.seq ?_; refine EW.region ?_; refine WL.assign rfl rfl rfl ?_; refine WL.done ?_; refine EW.on ?_; refine EW.seq ?_; refine EW.seq ?_; refine EW.region ?_; refine WL.move rfl rfl rfl ?_; refine WL.bin rfl rfl rfl rfl (int_eq_f (by decide) _ _ _) ?_; refine WL.done ?_; refine EW.on ?_; refine EW.cond_f rfl ?_; refine EW.skip ?_; refine EW.on ?_; refine EW.seq ?_; refine EW.seq ?_; refine EW.region ?_; refine WL.move rfl rfl rfl ?_; refine WL.bin rfl rfl rfl rfl (int_lt_f (by decide) _ _ _) ?_; refine WL.done ?_; refine EW.on ?_; refine EW.cond_f rfl ?_; refine EW.skip ?_; refine EW.on ?_; refine EW.seq ?_; refine EW.region ?_; refine WL.move rfl rfl rfl ?_; refine WL.len rfl rfl rfl (hv.len _ _) ?_; refine WL.conv rfl rfl rfl (cv91a _) ?_; refine WL.move rfl rfl rfl ?_; refine WL.conv rfl rfl rfl (cv91b _) ?_; refine WL.call [.int .u64 1, .int .u64 32] enter69 rfl rfl rfl (mul_32 w) ?_
  rintro _ w1 ⟨rfl, e1⟩
  refine ⟨_, rfl, ?_⟩
  rw [e1]
  clear e1 w1
  refine WL.move rfl rfl rfl ?_; refine WL.extract rfl rfl rfl (ext_2 _ _ _).1 ?_; refine WL.extract rfl rfl rfl (ext_2 _ _ _).2 ?_; refine WL.assign rfl rfl rfl ?_; refine WL.assign rfl rfl rfl ?_; refine WL.done ?_; refine EW.on ?_; refine EW.seq ?_; refine EW.seq ?_; refine EW.region ?_; refine WL.move rfl rfl rfl ?_; refine WL.bin rfl rfl rfl rfl (gtU1 _ _ _) ?_; refine WL.move rfl rfl rfl ?_
  first | refine WL.move rfl rfl rfl ?_ | refine WL.skip _ rfl rfl rfl ?_
  refine WL.bin rfl rfl rfl rfl (gtU2 _ _ _) ?_; refine WL.pick rfl rfl rfl rfl ?_; refine WL.done ?_; refine EW.on ?_; refine EW.cond_f rfl ?_; refine EW.skip ?_; refine EW.on ?_; refine EW.seq ?_; refine EW.region ?_; refine WL.move rfl rfl rfl ?_; refine WL.conv rfl rfl rfl (cv91c _) ?_; refine WL.assign rfl rfl rfl ?_; refine WL.done ?_; refine EW.on ?_; refine EW.seq ?_; refine EW.seq ?_; refine EW.region ?_; refine WL.move rfl rfl rfl ?_; refine WL.len rfl rfl rfl (hv.len _ _) ?_; refine WL.bin rfl rfl rfl rfl (int_eq_f (by simp) _ _ _) ?_; refine WL.done ?_; refine EW.on ?_; refine EW.cond_f rfl ?_; refine EW.skip ?_; refine EW.on ?_; refine EW.seq ?_; refine EW.region ?_; refine WL.move rfl rfl rfl ?_; refine WL.assign rfl rfl rfl ?_; refine WL.done ?_; refine EW.on ?_; refine EW.seq ?_; refine EW.seq ?_; refine EW.region ?_; refine WL.move rfl rfl rfl ?_; refine WL.bin rfl rfl rfl rfl (int_gt_f (by decide) _ _ _) ?_; refine WL.done ?_; refine EW.on ?_; refine EW.cond_f rfl ?_; refine EW.skip ?_; refine EW.on ?_; refine EW.seq ?_; refine EW.region ?_; refine WL.move rfl rfl rfl ?_
  obtain ⟨w1, g, cs, s1, bN, hcs, lN, hgw⟩ := nozero 32 (by decide) w
  refine WL.callX rfl rfl rfl s1 ?_; refine WL.move rfl rfl rfl ?_; refine WL.move rfl rfl rfl ?_; refine WL.slice3 rfl rfl rfl rfl rfl (cut3 g cs.length hcs _) ?_; refine WL.assign rfl rfl rfl ?_; refine WL.done ?_; refine EW.on ?_; refine EW.seq ?_; refine EW.region ?_; refine WL.move rfl rfl rfl ?_; refine WL.move rfl rfl rfl ?_
  obtain ⟨w2, s2, b2, f2⟩ := cpA (off := 0) (n := 32) bN (by omega) 32 (hv.below lN) 3
  refine WL.copy rfl rfl rfl rfl s2 ?_; refine WL.assign rfl rfl rfl ?_; refine WL.done ?_; refine EW.on ?_; refine EW.seq ?_; refine EW.block ?_
  have hg : w.heap.size ≤ g := by omega
  refine EW.loop (rpE v g) (RpI b w g cs.length) (fun m => 32 - m) 1 [0, 7, 8, 9, 10] rfl ⟨by decide, by decide, bf lN f2 hg, cs.drop 1, by simpa using b2, by rw [List.length_drop]; omega⟩ ?_
  obtain ⟨L, hL⟩ : ∃ L, cs.length = L := ⟨_, rfl⟩
  rw [hL] at hcs ⊢
  rintro m wi ⟨hm1, hm2, hbe, rest, hbl⟩
  show EW _ _ _ _ [(0, v), (7, .int .i64 32), (8, .int .i64 32), (9, .slice (some ⟨g, 0, none⟩) 32 32), (10, .int .i64 (m : Int))] _
  refine EW.seq ?_; refine EW.seq ?_; refine EW.region ?_; refine WL.move rfl rfl rfl ?_; refine WL.move rfl rfl rfl ?_; refine WL.bin rfl rfl rfl rfl (int_lt_d _ _ _ _ _) ?_; refine WL.done ?_; refine EW.on ?_; refine EW.cond_d rfl (fun h63 => ?_) (fun h63 => ?_)
  · refine EW.skip ?_; refine EW.on ?_; refine EW.block ?_; refine EW.seq ?_; refine EW.region ?_; refine WL.move rfl rfl rfl ?_; refine WL.move rfl rfl rfl ?_; refine WL.min rfl rfl rfl rfl (min33 _ _ (by omega) _ _) ?_; refine WL.assign rfl rfl rfl ?_; refine WL.done ?_; refine EW.on ?_
    have hm3 : m < 32 := by omega
    refine EW.ordB [(0, 0, 0), (1, 0, 0), (2, 0, 0), (3, 0, 0), (4, 0, 0), (5, 0, 0), (6, 0, 0), (7, 1, 0), (8, 0, 0), (9, 0, 0)] (by kernel_rfl) rfl (by kernel_rfl) ?_; simp only [opsZ, List.getD_cons_zero, List.getD_cons_succ]; refine ZE.move rfl rfl rfl rfl (fun W h => .inl rfl) ?_; refine ZE.move rfl rfl rfl rfl (fun W h => .inl rfl) ?_; refine ZE.move rfl rfl rfl rfl (fun W h => .inl rfl) ?_; refine ZE.sliceL rfl rfl rfl rfl rfl (fun W h => .inl rfl) (fun W => cutL2 g m hm3 W) ?_; refine ZE.move rfl rfl rfl rfl (fun W h => .inl rfl) ?_; refine ZE.move rfl rfl rfl rfl (fun W h => .inl rfl) ?_; refine ZE.sliceH rfl rfl rfl rfl rfl (fun W h => .inl rfl) (fun W => cutH2 g m (by omega) W) ?_; refine ZE.copy (fun v W => v = .int .i64 ((min (32 - m) m : Nat) : Int) ∧ RpI b w g L (m + min (32 - m) m) W) rfl rfl rfl rfl (fun _ _ _ => .inl rfl) (fun W hW => ?_) ?_
    · obtain ⟨hb0, hl0⟩ := hbl
      have hbW := hb0.on hW
      have hs : Has W (.slice (some ⟨g, 0, none⟩) m 32) (List.replicate m b) := rp_has hbW (by omega)
      obtain ⟨w', s1, s2, s3⟩ := cpA (off := m) (n := 32 - m) hbW (by rw [List.length_append, List.length_map, List.length_replicate]; omega) (32 - m) hs _
      rw [List.length_replicate] at s1
      refine ⟨_, w', s1, rfl, by omega, by omega, bf (bt hbe hW) s3 hg, rest.drop (min (32 - m) m), ?_, by rw [List.length_drop]; omega⟩
      rw [rp_step] at s2
      exact s2
    rintro vc ⟨_, rfl, _⟩
    refine ZE.sub (RpI b w g L (m + min (32 - m) m)) (fun W h => h.2) ?_; refine ZE.bin rfl rfl rfl rfl rfl (fun W h => .inl rfl) (fun W => int_add (c := ((m + min (32 - m) m : Nat) : Int)) (by rw [IntKind.wrap_i64]; omega) W _ _) ?_; refine ZE.assign rfl rfl rfl rfl (fun W h => .inl rfl) ?_
    intro wn hN
    refine pn_block ?_; refine EW.again (E := rpE v g) (R := RpI b w g L) (m := fun m => 32 - m) (x := m) (m + min (32 - m) m) [0, 7, 8, 9, 10] rfl hN (by show 32 - (m + min (32 - m) m) < 32 - m; omega)
  · refine EW.exit ?_; refine px_then ?_; refine px_then ?_; refine px_block ?_; refine EW.on ?_; refine EW.seq ?_; refine EW.region ?_; refine WL.move rfl rfl rfl ?_; refine WL.assign rfl rfl rfl ?_; refine WL.done ?_; refine EW.on ?_; refine EW.ret ?_
    have h32 : m = 32 := by omega
    subst h32
    exact EW.returns Tryd.results50 rfl ⟨g, rfl, rp_has hbl.1 (by decide), hbe⟩
theorem appNone {w : World} {base : Nat} {v : Value} {bs : List UInt8} (ho : Own w base v bs) (ty : TypeId) : (Builtin.append_ #[40, 40] ty #[v, .slice none 0 0]).run Tryd.prog w = .ok v w := by
  obtain ⟨i0, hi, hz0, hz1, hz2⟩ := info_parts Tryd.info5
  exact run_append_owned_none (P := Tryd.prog) w base 40 ty 5 i0 1 Tryd.underlying40 hi v _ _ ho
/-- 'append' to bytes of the call's own, as a run. -/
theorem app40 {w : World} {base : Nat} {v : Value} {bs : List UInt8} (ho : Own w base v bs) {u : Value} {ys : List UInt8} (hu : Has w u ys) (hb : bs.length + ys.length ≤ 100000) (hbase : base ≤ w.heap.size) (ty : TypeId) : ∃ v' w', (Builtin.append_ #[40, 40] ty #[v, u]).run Tryd.prog w = .ok v' w' ∧ Own w' base v' (bs ++ ys) ∧ w.grownBy w' v.ownBlock := by
  obtain ⟨i0, hi, hz0, hz1, hz2⟩ := info_parts Tryd.info5
  rcases hu with ⟨rfl, rfl⟩ | ⟨ad, cap, rfl, h2, h3⟩
  · exact ⟨v, w, appNone ho ty, by simpa using ho, grown_refl _ _⟩
  · exact run_app w base v bs ho ad cap ys h3 (by omega) hbase ty
theorem grown_nil (n : Nat) (h0 : 0 < n) (hn : n ≤ 10000) (w : World) (ty : TypeId) : ∃ w' g c, (Builtin.append_ #[40, 3] ty #[.slice none 0 0, .int .i64 (n : Int)]).run Tryd.prog w = .ok (.slice (some ⟨g, 0, none⟩) n c) w' ∧ (∀ W, (Instr.sliceAt 40 (.slice (some ⟨g, 0, none⟩) n c) none (some (.int .i64 0)) none).run Tryd.prog W = .ok (.slice (some ⟨g, 0, none⟩) 0 c) W) ∧ Own w' w.heap.size (.slice (some ⟨g, 0, none⟩) 0 c) [] ∧ Below w.heap.size w w' := by
  obtain ⟨i0, hi, hz0, hz1, hz2⟩ := info_parts Tryd.info5
  have hr := Lib.run_append_nil_zeros (P := Tryd.prog) w 40 3 ty 5 i0 (.int .u8 0) .i64 .i64 Tryd.underlying40 Tryd.underlying3 hi hz0 n h0 (by rw [hz1]; decide) (by omega) (by rw [hz2]; omega)
  have hc : n ≤ grownCap w n 0 5 := by simpa using grownCap_ge w n 0 5
  have hm := grownCap_le_maxLen w n 0 5 (by unfold maxLen; omega)
  refine ⟨_, _, _, hr, fun W => ?_, ⟨rfl, .inr ⟨w.heap.size, _, _, rfl, Nat.le_refl _, heap_alloc_new w.drew _, Nat.zero_le _, hm, ?_, rfl⟩⟩, ?_⟩
  · generalize grownCap w n 0 5 = c at hc hm
    have hm' : (0 : Int) ≤ (c : Int) := by omega
    go_simp
    try simp
    try rw [add_plain]
    try simp
  · simp only [Array.size_append, size_zeroCells, Value.cells]
    simp
    omega
  · refine Below.trans (b := w.drew) ⟨rfl, rfl, rfl, Nat.le_refl _, fun _ _ => rfl⟩ ?_
    exact below_new w.drew _
theorem cap40 (ty : TypeId) (W : World) : (Builtin.cap_ #[40] ty #[.slice none 0 0]).run Tryd.prog W = .ok (.int .i64 0) W := by go_simp
theorem nil40 (W : World) : (Instr.sliceAt 40 (.slice none 0 0) none (some (.int .i64 0)) none).run Tryd.prog W = .ok (.slice none 0 0) W := by
  go_simp
section
variable {P : Program} {n : Nat} {ops : Array Oper} {Q : Exit → Act → World → Prop} {i : Nat} {ty : TypeId} {ps : String} {af : Array Edge} {gd : Option (Nat × Bool)} {r : List Oper} {e : List (Nat × Value)} {w w' : World}
theorem WL.cap {t : TypeId} {x : Operand} {u v : Value} (hw : wantE ops e ⟨some i, .call { callee := .builtin .cap, args := #[x], argTypes := #[t] }, ty, ps, af, gd⟩ = some true) (hi : decide (i < n) = true) (hx : evE e x = some u) (hr : (Builtin.cap_ #[t] ty #[u]).run P w = .ok v w) (k : WL P n ops Q r ((i, v) :: e) w) : WL P n ops Q (⟨some i, .call { callee := .builtin .cap, args := #[x], argTypes := #[t] }, ty, ps, af, gd⟩ :: r) e w :=
  WL.op i v hw rfl hi (fun a ha => by simp [execOp, resolve, invoke, builtin, ha.ev hx, hr, Result.andThen]) k
theorem WL.appN {t s : TypeId} {x y : Operand} {u u' v : Value} (hw : wantE ops e ⟨some i, .call { callee := .builtin .append, args := #[x, y], argTypes := #[t, s] }, ty, ps, af, gd⟩ = some true) (hi : decide (i < n) = true) (hx : evE e x = some u) (hy : evE e y = some u') (hr : (Builtin.append_ #[t, s] ty #[u, u']).run P w = .ok v w') (k : WL P n ops Q r ((i, v) :: e) w') : WL P n ops Q (⟨some i, .call { callee := .builtin .append, args := #[x, y], argTypes := #[t, s] }, ty, ps, af, gd⟩ :: r) e w :=
  WL.op i v hw rfl hi (fun a ha => by simp [execOp, resolve, invoke, builtin, ha.ev hx, ha.ev hy, hr, Result.andThen]) k
theorem WL.sliceH1 {t : TypeId} {x y : Operand} {u uy v : Value} (hw : wantE ops e ⟨some i, .slice t x none (some y) none, ty, ps, af, gd⟩ = some true) (hi : decide (i < n) = true) (hx : evE e x = some u) (hy : evE e y = some uy) (hr : (Instr.sliceAt t u none (some uy) none).run P w = .ok v w) (k : WL P n ops Q r ((i, v) :: e) w) : WL P n ops Q (⟨some i, .slice t x none (some y) none, ty, ps, af, gd⟩ :: r) e w :=
  WL.op i v hw rfl hi (fun a ha => by simp [execOp, ha.ev hx, ha.ev hy, hr, Result.andThen]) k
end
set_option maxRecDepth 100000 in
set_option maxHeartbeats 1000000 in
theorem grow_any (n : Nat) (h0 : 0 < n) (hn : n ≤ 10000) (w : World) : Calls Tryd.prog 68 #[.slice none 0 0, .int .i64 (n : Int)] w fun e w' => ∃ v, e = .returned v ∧ Own w' w.heap.size v [] ∧ Below w.heap.size w w' := by
  obtain ⟨w1, g, c, s1, s2, o1, l1⟩ := grown_nil n h0 hn w 40
  refine calls_of_args [.slice none 0 0, .int .i64 (n : Int)] Tryd.func68 rfl 27 Tryd.ntmps68 (by show 2 ≤ 27; decide) ?_; refine EW.seq ?_; refine EW.region ?_; refine WL.assign rfl rfl rfl ?_; refine WL.done ?_; refine EW.on ?_; refine EW.seq ?_; refine EW.seq ?_; refine EW.region ?_; refine WL.move rfl rfl rfl ?_; refine WL.bin rfl rfl rfl rfl (int_lt_f (by omega) _ _ _) ?_; refine WL.done ?_; refine EW.on ?_; refine EW.cond_f rfl ?_; refine EW.skip ?_; refine EW.on ?_; refine EW.seq ?_; refine EW.seq ?_; refine EW.region ?_; refine WL.move rfl rfl rfl ?_; refine WL.move rfl rfl rfl ?_; refine WL.cap rfl rfl rfl (cap40 _ _) ?_; refine WL.move rfl rfl rfl ?_; refine WL.len rfl rfl rfl (Has.len (Has.nil w) _ _) ?_; refine WL.bin rfl rfl rfl rfl (int_sub (c := 0) (by decide) _ _ _) ?_; refine WL.bin rfl rfl rfl rfl (int_sub (c := (n : Int)) (by rw [IntKind.wrap_i64]; omega) _ _ _) ?_; refine WL.assign rfl rfl rfl ?_; refine WL.done ?_; refine EW.on ?_; refine EW.seq ?_; refine EW.region ?_; refine WL.move rfl rfl rfl ?_; refine WL.bin rfl rfl rfl rfl (int_gt_t (by omega) _ _ _) ?_; refine WL.done ?_; refine EW.on ?_; refine EW.cond_t rfl ?_; refine EW.region ?_; refine WL.move rfl rfl rfl ?_; refine WL.move rfl rfl rfl ?_; refine WL.cap rfl rfl rfl (cap40 _ _) ?_; refine WL.sliceH1 rfl rfl rfl rfl (nil40 _) ?_; refine WL.move rfl rfl rfl ?_; refine WL.appN rfl rfl rfl rfl s1 ?_; refine WL.move rfl rfl rfl ?_; refine WL.len rfl rfl rfl (Has.len (Has.nil w) _ _) ?_; refine WL.sliceH1 rfl rfl rfl rfl (s2 _) ?_; refine WL.assign rfl rfl rfl ?_; refine WL.done ?_; refine EW.on ?_; refine EW.seq ?_; refine EW.region ?_; refine WL.move rfl rfl rfl ?_; refine WL.assign rfl rfl rfl ?_; refine WL.done ?_; refine EW.on ?_; refine EW.ret ?_
  exact EW.returns Tryd.results68 rfl ⟨_, rfl, o1, l1⟩
def sumP (ps : List (Value × List UInt8)) (i : Nat) : Nat := ((ps.take i).flatMap (·.2)).length
theorem sumP_succ {ps : List (Value × List UInt8)} {k : Nat} (h : k < ps.length) : sumP ps (k + 1) = sumP ps k + ps[k].2.length := by
  unfold sumP
  rw [flat_take ps k h, List.length_append]
theorem sumP_le (ps : List (Value × List UInt8)) (k : Nat) : sumP ps k ≤ (ps.flatMap (·.2)).length := flat_len ps k
theorem Parts.at {w : World} {v : Value} {ps : List (Value × List UInt8)} (h : Parts w v ps) {k : Nat} (hk : k < ps.length) : ∃ ad, (∀ W, (Instr.indexAt 95 v (.int .i64 (k : Int))).run Tryd.prog W = .ok (.pointer (some ad)) W) ∧ (∀ W, Below w.heap.size w W → (Instr.loadAt 40 (.pointer (some ad))).run Tryd.prog W = .ok ps[k].1 W) ∧ Has w ps[k].1 ps[k].2 := by
  rcases h with ⟨rfl, rfl⟩ | ⟨ad, cap, rfl, h2, h3⟩
  · simp at hk
  · obtain ⟨h4, h5⟩ := h3 k ps[k] (List.getElem?_eq_getElem hk)
    refine ⟨ad.add k, fun W => idx24 ad _ cap k hk W, fun W hW => ?_, h5⟩
    have hc : W.cell? (ad.add k) = some ps[k].1 := (hW.cell (cell_lt h4)).trans h4
    obtain ⟨ao, c, e⟩ := h5.slice
    rw [e] at hc ⊢
    generalize ad.add k = a2 at hc ⊢
    go_simp
theorem Parts.len {w : World} {v : Value} {ps : List (Value × List UInt8)} (h : Parts w v ps) (W : World) (ty : TypeId) : (Builtin.len_ #[95] ty #[v]).run Tryd.prog W = .ok (.int .i64 (ps.length : Int)) W := by
  rcases h with ⟨rfl, rfl⟩ | ⟨ad, cap, rfl, h2, h3⟩ <;> go_simp
def c1E (v : Value) (ps : List (Value × List UInt8)) (i : Nat) : List (Nat × Value) := [(0, v), (3, .int .i64 (sumP ps i : Int)), (9, v), (10, .int .i64 (ps.length : Int)), (11, .int .i64 (i : Int))]
def c2E (v : Value) (ps : List (Value × List UInt8)) (x : Nat × Value) : List (Nat × Value) := [(6, x.2), (25, v), (26, .int .i64 (ps.length : Int)), (27, .int .i64 (x.1 : Int))]
def C2I (w : World) (ps : List (Value × List UInt8)) (x : Nat × Value) (W : World) : Prop := x.1 ≤ ps.length ∧ Own W w.heap.size x.2 ((ps.take x.1).flatMap (·.2)) ∧ Below w.heap.size w W
set_option maxRecDepth 100000 in
set_option maxHeartbeats 1000000 in
theorem concat_any (v : Value) (ps : List (Value × List UInt8)) (M : List UInt8) (hM : ps.flatMap (·.2) = M) (w : World) (hP : Parts w v ps) (h0 : 0 < M.length) (hn : M.length ≤ 10000) (hl : ps.length ≤ 1000) :
    Calls Tryd.prog 49 #[v] w fun e w' => ∃ u, e = .returned u ∧ Has w' u M ∧ Below w.heap.size w w' := by
  subst hM
  refine calls_of_args [v] Tryd.func49 rfl 36 Tryd.ntmps49 (by show 1 ≤ 36; decide) ?_; refine EW.seq ?_; refine EW.region ?_; refine WL.assign rfl rfl rfl ?_; refine WL.done ?_; refine EW.on ?_; refine EW.seq ?_; refine EW.region ?_; refine WL.assign rfl rfl rfl ?_; refine WL.done ?_; refine EW.on ?_; refine EW.seq ?_; refine EW.seq ?_; refine EW.region ?_; refine WL.move rfl rfl rfl ?_; refine WL.len rfl rfl rfl (hP.len _ _) ?_; refine WL.move rfl rfl rfl ?_; refine WL.done ?_; refine EW.on ?_; refine EW.block ?_; refine EW.loop (c1E v ps) (fun i W => i ≤ ps.length ∧ W = w) (fun i => ps.length - i) 0 [0, 3, 9, 10, 11] rfl ⟨Nat.zero_le _, rfl⟩ ?_
  rintro i wi ⟨hi, hw⟩
  rw [hw]
  show EW _ _ _ _ [(0, v), (3, .int .i64 (sumP ps i : Int)), (9, v), (10, .int .i64 (ps.length : Int)), (11, .int .i64 (i : Int))] _
  refine EW.seq ?_; refine EW.region ?_; refine WL.bin rfl rfl rfl rfl (int_lt_d _ _ _ _ _) ?_; refine WL.done ?_; refine EW.on ?_; refine EW.seq ?_; refine EW.cond_d rfl (fun h12 => ?_) (fun h12 => ?_)
  · refine EW.skip ?_; refine EW.on ?_; refine EW.seq ?_; refine EW.block ?_; refine EW.seq ?_
    have hlt : i < ps.length := by omega
    obtain ⟨ad, ix, ld, hh⟩ := hP.at hlt
    refine EW.region ?_; refine WL.index rfl rfl rfl rfl (ix _) ?_; refine WL.load rfl rfl rfl (ld _ (Below.refl _ _)) ?_; refine WL.assign rfl rfl rfl ?_; refine WL.done ?_; refine EW.on ?_; refine EW.seq ?_; refine EW.region ?_; refine WL.move rfl rfl rfl ?_; refine WL.move rfl rfl rfl ?_; refine WL.len rfl rfl rfl (hh.len _ _) ?_; refine WL.bin rfl rfl rfl rfl (int_add (c := (sumP ps (i + 1) : Int)) (by rw [IntKind.wrap_i64, sumP_succ hlt]; have := sumP_le ps (i + 1); rw [sumP_succ hlt] at this; omega) _ _ _) ?_; refine WL.assign rfl rfl rfl ?_; refine WL.done ?_; refine EW.on ?_; refine EW.seq ?_; refine EW.region ?_; refine WL.move rfl rfl rfl ?_; refine WL.bin rfl rfl rfl rfl (int_lt_f (by omega) _ _ _) ?_; refine WL.done ?_; refine EW.on ?_; refine EW.cond_f rfl ?_; refine EW.skip ?_; refine pn_block ?_; refine EW.on ?_; refine EW.region ?_; refine WL.bin rfl rfl rfl rfl (int_add (c := ((i + 1 : Nat) : Int)) (by rw [IntKind.wrap_i64]; omega) _ _ _) ?_; refine WL.move rfl rfl rfl ?_; refine WL.done ?_
    exact EW.again (E := c1E v ps) (R := fun i W => i ≤ ps.length ∧ W = w) (m := fun i => ps.length - i) (x := i) (i + 1) [0, 3, 9, 10, 11] rfl ⟨by omega, rfl⟩ (by show ps.length - (i + 1) < ps.length - i; omega)
  · refine EW.exit ?_; refine px_then ?_; refine px_then ?_; refine px_block ?_; refine EW.on ?_; refine EW.seq ?_
    have hie : i = ps.length := by omega
    subst hie
    refine EW.region ?_; refine WL.move rfl rfl rfl ?_; refine WL.call [.slice none 0 0, .int .i64 (sumP ps ps.length : Int)] enter68 rfl rfl rfl (grow_any (sumP ps ps.length) (by unfold sumP; rw [List.take_length]; omega) (by have := sumP_le ps ps.length; omega) w) ?_
    rintro _ w1 ⟨v6, rfl, o6, l6⟩
    refine ⟨_, rfl, ?_⟩; refine WL.assign rfl rfl rfl ?_; refine WL.done ?_; refine EW.on ?_; refine EW.seq ?_; refine EW.seq ?_; refine EW.region ?_; refine WL.move rfl rfl rfl ?_; refine WL.len rfl rfl rfl (hP.len _ _) ?_; refine WL.move rfl rfl rfl ?_; refine WL.done ?_; refine EW.on ?_; refine EW.block ?_; refine EW.loop (c2E v ps) (C2I w ps) (fun x => ps.length - x.1) (0, v6) [6, 25, 26, 27] rfl ⟨Nat.zero_le _, o6, l6⟩ ?_
    clear hi h12 hw wi
    rintro ⟨i, vN⟩ wi ⟨hi, hO, hbe⟩
    have hO : Own wi w.heap.size vN ((ps.take i).flatMap (·.2)) := hO
    show EW _ _ _ _ [(6, vN), (25, v), (26, .int .i64 (ps.length : Int)), (27, .int .i64 (i : Int))] _
    refine EW.seq ?_; refine EW.region ?_; refine WL.bin rfl rfl rfl rfl (int_lt_d _ _ _ _ _) ?_; refine WL.done ?_; refine EW.on ?_; refine EW.seq ?_; refine EW.cond_d rfl (fun h28 => ?_) (fun h28 => ?_)
    · refine EW.skip ?_; refine EW.on ?_; refine EW.seq ?_; refine EW.block ?_; refine EW.seq ?_
      have hlt : i < ps.length := by have h28 : (i : Int) < (ps.length : Int) := h28; omega
      obtain ⟨ad, ix, ld, hh⟩ := hP.at hlt
      refine EW.region ?_; refine WL.index rfl rfl rfl rfl (ix _) ?_; refine WL.load rfl rfl rfl (ld _ hbe) ?_; refine WL.assign rfl rfl rfl ?_; refine WL.done ?_; refine EW.on ?_; refine EW.region ?_; refine WL.move rfl rfl rfl ?_; refine WL.move rfl rfl rfl ?_
      obtain ⟨v', w2, s2, o2, g2⟩ := app40 hO (hh.below hbe) (by have := sumP_succ hlt; have := sumP_le ps (i + 1); unfold sumP at *; omega) hbe.size 40
      refine WL.appN rfl rfl rfl rfl s2 ?_; refine WL.assign rfl rfl rfl ?_; refine WL.done ?_; refine pn_block ?_; refine EW.on ?_; refine EW.region ?_; refine WL.bin rfl rfl rfl rfl (int_add (c := ((i + 1 : Nat) : Int)) (by rw [IntKind.wrap_i64]; omega) _ _ _) ?_; refine WL.move rfl rfl rfl ?_; refine WL.done ?_
      exact EW.again (E := c2E v ps) (R := C2I w ps) (m := fun x => ps.length - x.1) (x := (i, vN)) (i + 1, v') [6, 25, 26, 27] rfl ⟨by show i + 1 ≤ _; omega, by show Own _ _ _ ((ps.take (i + 1)).flatMap (·.2)); rw [flat_take ps i hlt]; exact o2, hbe.grown g2 hbe.size hO.ownBlock⟩ (by show ps.length - (i + 1) < ps.length - i; omega)
    · refine EW.exit ?_; refine px_then ?_; refine px_then ?_; refine px_block ?_; refine EW.on ?_; refine EW.seq ?_
      have hie : i = ps.length := by have h28 : ¬ (i : Int) < (ps.length : Int) := h28; have hi : i ≤ ps.length := hi; omega
      subst hie
      have hO : Own wi w.heap.size vN ((ps.take ps.length).flatMap (·.2)) := hO
      rw [List.take_length] at hO
      refine EW.region ?_; refine WL.move rfl rfl rfl ?_; refine WL.assign rfl rfl rfl ?_; refine WL.done ?_; refine EW.on ?_; refine EW.ret ?_
      exact EW.returns Tryd.results49 rfl ⟨_, rfl, hO.has, hbe⟩
end Go.Proofs.YtoceepmehmacbaaDoor
