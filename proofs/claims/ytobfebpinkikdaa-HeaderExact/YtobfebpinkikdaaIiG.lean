import Derived.Test.YtobfebpinkikdaaIg
import Derived.Laws.Tables
set_option linter.unusedVariables false
set_option linter.unusedSimpArgs false
namespace Go.Proofs.Ytobfebpinkikdaa
open Go.RowKit

theorem fold_set : ∀ (vs : List Value) (off k : Nat) (cs : List Value), off + k + vs.length ≤ cs.length → (vs.zipIdx k).foldl (fun (cs : Array Value) (x : Value × Nat) => cs.setIfInBounds (off + x.2) x.1) cs.toArray = (cs.take (off + k) ++ vs ++ cs.drop (off + k + vs.length)).toArray
  | [], off, k, cs, _ => by simp
  | v :: r, off, k, cs, h => by
    rw [List.zipIdx_cons, List.foldl_cons]
    simp only [List.length_cons] at h
    have e : (cs.toArray.setIfInBounds (off + k) v) = (cs.set (off + k) v).toArray := by simp
    show (r.zipIdx (k + 1)).foldl _ (cs.toArray.setIfInBounds (off + k) v) = _
    rw [e, fold_set r off (k + 1) (cs.set (off + k) v) (by rw [List.length_set]; omega), ← Nat.add_assoc, splice_one cs (off + k) v r (by simp only [List.length_cons]; omega)]
theorem fill_one {place : Nat → Option (Nat × Nat)} {a m b vs : List Value} {i off n : Nat} {v : Value} {rest : List (Nat × Value)} (hp : place i = some (off, n)) (hv : v.cells = vs.toArray) (hn : vs.length = n) (hm : m.length = n) (ho : a.length = off) : Instr.fill place (a ++ (m ++ b)).toArray ((i, v) :: rest) = Instr.fill place (a ++ (vs ++ b)).toArray rest := by
  have h1 : ¬ (off + n > (a ++ (m ++ b)).length) := by simp; omega
  have hf := fold_set vs off 0 (a ++ (m ++ b)) (by simp; omega)
  have e : (a ++ (m ++ b)).take (off + 0) ++ vs ++ (a ++ (m ++ b)).drop (off + 0 + vs.length) = a ++ (vs ++ b) := by
    rw [Nat.add_zero, ← ho, List.take_left, hn, ← hm, ← List.drop_drop, List.drop_left, List.drop_left, List.append_assoc]
  rw [e] at hf
  have hz : v.cells.zipIdx.foldl (fun (cs : Array Value) (x : Value × Nat) => cs.setIfInBounds (off + x.2) x.1) (a ++ (m ++ b)).toArray = (a ++ (vs ++ b)).toArray := by
    rw [hv, ← hf, ← Array.foldl_toList]
    simp
  rw [Instr.fill, hp]
  simp only [hv, List.size_toArray, hn, h1, decide_false, ne_eq, not_true_eq_false, Bool.or_self, Bool.false_eq_true, if_false]
  rw [← hv]
  exact congrArg (fun x => Instr.fill place x rest) hz
theorem fill_nil (place : Nat → Option (Nat × Nat)) (cs : Array Value) : Instr.fill place cs [] = some cs := rfl
theorem built_of {t : TypeId} {fields : Array Field} {zs : List Value} {places : List (Nat × Nat)} (hz : (Try.prog.info? t).map (·.zero) = some (some (.agg zs.toArray))) (hu : Try.prog.underlying t = some (.struct fields)) (hp : fields.toList.mapM (fun f => (Try.prog.info? f.type).map fun i => (f.offset, i.size)) = some places) (parts : List (Nat × Value)) : Try.prog.built t parts = Instr.fill (places.toArray[·]?) zs.toArray parts := by
  cases hit : Try.prog.info? t with
  | none => simp [hit] at hz
  | some it =>
    simp [hit] at hz
    simp only [Program.built, hit, hu, hz, hp]
    rfl
theorem kv_cells (K : List UInt8) : (kv K).cells = (K.map byt).toArray := rfl
theorem bdHl {a b : List UInt8} {n : Nat} (ha : a.length = 32) (hb : b.length = 32) (W : World) : (Instr.build 26 [(0, kv a), (1, kv b), (2, u32v n)].toArray).run Try.prog W = .ok (Hl.v ⟨a, b, n⟩) W := by
  refine run_build W 26 _ _ ?_
  rw [built_of (zs := Hl.z.cs) (by kernel_rfl) Try.underlying26 (show _ = some [(0, 32), (32, 32), (64, 1)] by kernel_rfl)]
  show Instr.fill _ (Hl.cs Hl.z).toArray [(0, kv a), (1, kv b), (2, u32v n)] = some (Hl.cs ⟨a, b, n⟩).toArray
  rw [show Hl.cs Hl.z = [] ++ (z32.map byt ++ (z32.map byt ++ [u32v 0])) from rfl, fill_one (off := 0) (n := 32) rfl (kv_cells a) (by simp [ha]) rfl rfl]
  rw [show ([] : List Value) ++ (a.map byt ++ (z32.map byt ++ [u32v 0])) = a.map byt ++ (z32.map byt ++ [u32v 0]) from rfl, fill_one (off := 32) (n := 32) rfl (kv_cells b) (by simp [hb]) rfl (by simp [ha])]
  rw [show a.map byt ++ (b.map byt ++ [u32v 0]) = (a.map byt ++ b.map byt) ++ ([u32v 0] ++ []) from by simp, fill_one (vs := [u32v n]) (off := 64) (n := 1) rfl rfl rfl rfl (by simp [ha, hb]), fill_nil]
  simp [Hl.cs]
theorem bdOf {a b : List UInt8} {n : Nat} (ha : a.length = 32) (hb : b.length = 32) (W : World) : (Instr.build 42 [(0, kv a), (1, u32v n), (2, kv b)].toArray).run Try.prog W = .ok (Of.v ⟨a, n, b⟩) W := by
  refine run_build W 42 _ _ ?_
  rw [built_of (zs := Of.z.cs) (by kernel_rfl) Try.underlying42 (show _ = some [(0, 32), (32, 1), (33, 32)] by kernel_rfl)]
  show Instr.fill _ (Of.cs Of.z).toArray [(0, kv a), (1, u32v n), (2, kv b)] = some (Of.cs ⟨a, n, b⟩).toArray
  rw [show Of.cs Of.z = [] ++ (z32.map byt ++ ([u32v 0] ++ z32.map byt)) from rfl, fill_one (off := 0) (n := 32) rfl (kv_cells a) (by simp [ha]) rfl rfl]
  rw [show ([] : List Value) ++ (a.map byt ++ ([u32v 0] ++ z32.map byt)) = a.map byt ++ ([u32v 0] ++ z32.map byt) from rfl, fill_one (vs := [u32v n]) (off := 32) (n := 1) rfl rfl rfl rfl (by simp [ha])]
  rw [show a.map byt ++ ([u32v n] ++ z32.map byt) = (a.map byt ++ [u32v n]) ++ (z32.map byt ++ []) from by simp, fill_one (off := 33) (n := 32) rfl (kv_cells b) (by simp [hb]) rfl (by simp [ha]), fill_nil]
  simp [Of.cs]
end Go.Proofs.Ytobfebpinkikdaa

set_option linter.unusedVariables false
set_option linter.unusedSimpArgs false
namespace Go.Proofs.Ytobfebpinkikdaa
open Go.RowKit

section
variable {P : Program} {n : Nat} {ops : Array Oper} {Q : Exit → Act → World → Prop} {i : Nat} {ty : TypeId} {ps : String} {af : Array Edge} {gd : Option (Nat × Bool)} {r : List Oper} {e : List (Nat × Value)} {w : World}
theorem WL.slice2 {t : TypeId} {x lo hi' : Operand} {u ul uh v : Value} (hw : wantE ops e ⟨some i, .slice t x (some lo) (some hi') none, ty, ps, af, gd⟩ = some true) (hi : decide (i < n) = true) (hx : evE e x = some u) (hl : evE e lo = some ul) (hh : evE e hi' = some uh) (hr : (Instr.sliceAt t u (some ul) (some uh) none).run P w = .ok v w) (k : WL P n ops Q r ((i, v) :: e) w) : WL P n ops Q (⟨some i, .slice t x (some lo) (some hi') none, ty, ps, af, gd⟩ :: r) e w :=
  WL.op i v hw rfl hi (fun a ha => by simp [execOp, ha.ev hx, ha.ev hl, ha.ev hh, hr, Result.andThen]) k
theorem WL.sliceL {t : TypeId} {x lo : Operand} {u ul v : Value} (hw : wantE ops e ⟨some i, .slice t x (some lo) none none, ty, ps, af, gd⟩ = some true) (hi : decide (i < n) = true) (hx : evE e x = some u) (hl : evE e lo = some ul) (hr : (Instr.sliceAt t u (some ul) none none).run P w = .ok v w) (k : WL P n ops Q r ((i, v) :: e) w) : WL P n ops Q (⟨some i, .slice t x (some lo) none none, ty, ps, af, gd⟩ :: r) e w :=
  WL.op i v hw rfl hi (fun a ha => by simp [execOp, ha.ev hx, ha.ev hl, hr, Result.andThen]) k
end
theorem idxS (q o m : Nat) (h : m < 16) (W : World) : (Instr.indexAt 28 (.pointer (some ⟨q, o, none⟩)) (.int .i64 (m : Int))).run Try.prog W = .ok (.pointer (some ⟨q, o + m, none⟩)) W := by
  have hm : (m : Int) < 16 := by omega
  go_simp
  try simp
  try rw [Addr.add_mid]
theorem hd_set {h : Hd} {j : Nat} (hj : j < h.sid.length) (x : UInt8) : h.cs.set j (byt x) = Hd.cs ⟨h.sid.set j x, h.turn, h.key, h.prev, h.n⟩ := by
  unfold Hd.cs
  rw [List.set_append_left _ _ (by rw [List.length_map]; exact hj), List.map_set]
section
variable {w : World} {q : Nat} {t : TypeId} {h : Hd}
theorem stHdT (hb : Blk w q h.cs t) (kh : h.ok) (n : Nat) : ∃ w', (Instr.storeAt 24 (.pointer (some ⟨q, 16, none⟩)) (u32v n)).run Try.prog w = .ok () w' ∧ Blk w' q (Hd.cs ⟨h.sid, n, h.key, h.prev, h.n⟩) t ∧ Fx (fun k => k = q) w w' := by
  obtain ⟨w', h1, h2, h3⟩ := hb.stU (o := 16) (a := h.sid.map byt) (b := h.key.map byt ++ ([u32v h.prev] ++ [u32v h.n])) (x := u32v h.turn) rfl (by simp [kh.s]) n
  exact ⟨w', h1, h2, h3⟩
theorem stHdK (hb : Blk w q h.cs t) (kh : h.ok) (K : List UInt8) (hK : K.length = 32) : ∃ w', (Instr.storeAt 23 (.pointer (some ⟨q, 17, none⟩)) (kv K)).run Try.prog w = .ok () w' ∧ Blk w' q (Hd.cs ⟨h.sid, h.turn, K, h.prev, h.n⟩) t ∧ Fx (fun k => k = q) w w' := by
  obtain ⟨w', h1, h2, h3⟩ := hb.stA (o := 17) (a := h.sid.map byt ++ [u32v h.turn]) (b := [u32v h.prev] ++ [u32v h.n]) (m := h.key.map byt) (ty := 23) (vs := K.map byt) (i23 hK) (byts_one' _) (by simp [Hd.cs]) (by simp [kh.s]) (by simp [kh.k, hK])
  exact ⟨w', h1, by simpa [Hd.cs] using h2, h3⟩
theorem stHdP (hb : Blk w q h.cs t) (kh : h.ok) (n : Nat) : ∃ w', (Instr.storeAt 24 (.pointer (some ⟨q, 49, none⟩)) (u32v n)).run Try.prog w = .ok () w' ∧ Blk w' q (Hd.cs ⟨h.sid, h.turn, h.key, n, h.n⟩) t ∧ Fx (fun k => k = q) w w' := by
  obtain ⟨w', h1, h2, h3⟩ := hb.stU (o := 49) (a := h.sid.map byt ++ ([u32v h.turn] ++ h.key.map byt)) (b := [u32v h.n]) (x := u32v h.prev) (by simp [Hd.cs]) (by simp [kh.s, kh.k]) n
  exact ⟨w', h1, by simpa [Hd.cs] using h2, h3⟩
theorem stHdN (hb : Blk w q h.cs t) (kh : h.ok) (n : Nat) : ∃ w', (Instr.storeAt 24 (.pointer (some ⟨q, 50, none⟩)) (u32v n)).run Try.prog w = .ok () w' ∧ Blk w' q (Hd.cs ⟨h.sid, h.turn, h.key, h.prev, n⟩) t ∧ Fx (fun k => k = q) w w' := by
  obtain ⟨w', h1, h2, h3⟩ := hb.stU (o := 50) (a := h.sid.map byt ++ ([u32v h.turn] ++ (h.key.map byt ++ [u32v h.prev]))) (b := []) (x := u32v h.n) (by simp [Hd.cs]) (by simp [kh.s, kh.k]) n
  exact ⟨w', h1, by simpa [Hd.cs] using h2, h3⟩
end
def heE (vb : Value) (i p q t : Nat) : List (Nat × Value) := [(0, vb), (1, .int .i64 (i : Int)), (4, .pointer (some ⟨p, 0, none⟩)), (5, .pointer (some ⟨q, 0, none⟩)), (6, .int .i64 (t : Int))]
def HeI (w : World) (X : List UInt8) (i p q t : Nat) (W : World) : Prop := t ≤ 16 ∧ Blk W q (Hd.cs ⟨midN X i 16 t, 0, z32, 0, 0⟩) 30 ∧ Blk W p Hd.z.cs 30 ∧ Below w.heap.size w W
theorem mid_ok (X : List UInt8) (i t : Nat) (hX : i + 16 ≤ X.length) (ht : t ≤ 16) : Hd.ok ⟨midN X i 16 t, 0, z32, 0, 0⟩ := ⟨midN_length X i 16 t hX ht, Hd.z_ok.t, rfl, Hd.z_ok.p, Hd.z_ok.n⟩
theorem numc_lt {X : List UInt8} {a : Nat} : numB (cutB X a 4) < 4294967296 := numB_32 _ (by unfold cutB; rw [List.length_take]; omega)
set_option maxRecDepth 100000 in
set_option maxHeartbeats 4000000 in
theorem headr_any (vb : Value) (X : List UInt8) (i : Nat) (w : World) (hb : Has w vb X) (hX : i + 60 ≤ X.length) (hXl : X.length ≤ 140737488355328) : Calls Try.prog 61 #[vb, .int .i64 (i : Int)] w fun e w' => e = .returned (hdD X i).v ∧ Below w.heap.size w w' := by
  obtain ⟨w1, p, r1, b1, l1, hp⟩ := new_any (t := 30) (cs := Hd.z.cs) zv30 w
  obtain ⟨w2, q, r2, b2, l2, hq⟩ := new_any (t := 30) (cs := Hd.z.cs) zv30 w1
  have hne : p ≠ q := by have := b1.lt; omega
  have hs1 := l1.size
  refine calls_of_args [vb, .int .i64 (i : Int)] Try.func61 rfl 50 Try.ntmps61 (by show 2 ≤ 50; decide) ?_
  refine EW.seq ?_
  refine EW.region ?_
  refine WL.new rfl rfl r1 ?_
  refine WL.done ?_
  refine EW.on ?_
  refine EW.seq ?_
  refine EW.region ?_
  refine WL.new rfl rfl r2 ?_
  refine WL.done ?_
  refine EW.on ?_
  refine EW.seq ?_
  refine EW.seq ?_
  refine EW.region ?_
  first | refine WL.assign rfl rfl rfl ?_
  refine WL.done ?_
  refine EW.on ?_
  refine EW.block ?_
  refine EW.loop (heE vb i p q) (HeI w X i p q) (fun t => 16 - t) 0 [0, 1, 4, 5, 6] rfl ⟨by decide, by rw [midN_zero]; exact b2, b1.on l2, l1.trans (l2.mono l1.size)⟩ ?_
  rintro t wi ⟨htl, bq, bp, be⟩
  show EW _ _ _ _ [(0, vb), (1, .int .i64 (i : Int)), (4, .pointer (some ⟨p, 0, none⟩)), (5, .pointer (some ⟨q, 0, none⟩)), (6, .int .i64 (t : Int))] _
  refine EW.seq ?_
  refine EW.seq ?_
  refine EW.region ?_
  first | refine WL.move rfl rfl rfl ?_
  refine WL.bin rfl rfl rfl rfl (int_lt_d _ _ _ _ _) ?_
  refine WL.done ?_
  refine EW.on ?_
  refine EW.cond_d rfl (fun h8 => ?_) (fun h8 => ?_)
  · refine EW.skip ?_
    refine EW.on ?_
    refine EW.seq ?_
    refine EW.block ?_
    have hlt : t < 16 := by omega
    obtain ⟨u, hu⟩ := ofset (l := X) (j := i + t) (by omega)
    obtain ⟨ad, ix, ld⟩ := (hb.below be).item hu
    refine EW.region ?_
    first | refine WL.move rfl rfl rfl ?_
    first | refine WL.move rfl rfl rfl ?_
    first | refine WL.move rfl rfl rfl ?_
    first | refine WL.move rfl rfl rfl ?_
    refine WL.bin rfl rfl rfl rfl (int_add (c := ((i + t : Nat) : Int)) (by rw [IntKind.wrap_i64]; omega) _ _ _) ?_
    refine WL.index rfl rfl rfl rfl (ix _) ?_
    refine WL.load rfl rfl rfl ld ?_
    refine WL.field rfl rfl rfl (f30_0 q 0 _) ?_
    refine WL.index rfl rfl rfl rfl (idxS q _ t hlt _) ?_
    obtain ⟨w5, s5, b5, f5⟩ := stCell5 (o := 0 + 0 + t) bq (by rw [Hd.len (mid_ok X i t (by omega) htl)]; omega) u
    refine WL.store rfl rfl rfl s5 ?_
    refine WL.done ?_
    refine pn_block ?_
    refine EW.on ?_
    refine EW.region ?_
    first | refine WL.move rfl rfl rfl ?_
    refine WL.bin rfl rfl rfl rfl (int_add (c := ((t + 1 : Nat) : Int)) (by rw [IntKind.wrap_i64]; omega) _ _ _) ?_
    first | refine WL.assign rfl rfl rfl ?_
    refine WL.done ?_
    refine EW.again (E := heE vb i p q) (R := HeI w X i p q) (m := fun t => 16 - t) (x := t) (t + 1) [0, 1, 4, 5, 6] rfl ⟨by omega, ?_, bp.fx f5 (fun e => hne e), be.trans (f5.low (by omega) be.size)⟩ (by show 16 - (t + 1) < 16 - t; omega)
    rw [Nat.zero_add, hd_set (by show t < (midN X i 16 t).length; rw [midN_length X i 16 t (by omega) htl]; exact hlt)] at b5
    rw [← midN_succ X i 16 t (by omega) hlt u hu]
    exact b5
  · refine EW.exit ?_
    refine px_then ?_
    refine px_then ?_
    refine px_block ?_
    refine EW.on ?_
    refine EW.seq ?_
    obtain rfl : t = 16 := by omega
    refine EW.region ?_
    first | refine WL.move rfl rfl rfl ?_
    first | refine WL.move rfl rfl rfl ?_
    refine WL.bin rfl rfl rfl rfl (int_add (c := ((i + 16 : Nat) : Int)) (by rw [IntKind.wrap_i64]; omega) _ _ _) ?_
    first | refine WL.move rfl rfl rfl ?_
    refine WL.bin rfl rfl rfl rfl (int_add (c := ((i + 20 : Nat) : Int)) (by rw [IntKind.wrap_i64]; omega) _ _ _) ?_
    refine WL.slice2 rfl rfl rfl rfl rfl (by rw [sl22]; exact hb.cutLH (i + 16) (i + 20) (by omega) (by omega) _) ?_
    refine WL.call [cutV vb (i + 16) (i + 20)] enter60 rfl rfl rfl (value_any _ (cutB X (i + 16) 4) _ (by have h := (hb.below be).cut (i + 16) (i + 20) (by omega) (by omega); rw [show i + 20 - (i + 16) = 4 by omega] at h; exact h) (by rw [cutB_len (by omega)]; exact Nat.le_refl _)) ?_
    rintro _ wz ⟨rfl, hz⟩
    rw [hz]
    clear hz
    refine ⟨_, rfl, ?_⟩
    refine WL.field rfl rfl rfl (f30_1 q 0 _) ?_
    rw [midN_all] at bq
    obtain ⟨w6, s6, bq6, f6⟩ := stHdT (h := ⟨cutB X i 16, 0, z32, 0, 0⟩) bq ⟨cutB_len (by omega), Hd.z_ok.t, rfl, Hd.z_ok.p, Hd.z_ok.n⟩ (numB (cutB X (i + 16) 4))
    refine WL.store rfl rfl rfl s6 ?_
    have bp6 := bp.fx f6 (fun e => hne e)
    have sb6 := be.trans (f6.low (by omega) be.size)
    have k6 : Hd.ok ⟨cutB X i 16, numB (cutB X (i + 16) 4), z32, 0, 0⟩ := ⟨cutB_len (by omega), numc_lt, rfl, Hd.z_ok.p, Hd.z_ok.n⟩
    refine WL.done ?_
    refine EW.on ?_
    refine EW.seq ?_
    refine EW.region ?_
    first | refine WL.move rfl rfl rfl ?_
    first | refine WL.move rfl rfl rfl ?_
    refine WL.bin rfl rfl rfl rfl (int_add (c := ((i + 20 : Nat) : Int)) (by rw [IntKind.wrap_i64]; omega) _ _ _) ?_
    refine WL.call [vb, .int .i64 ((i + 20 : Nat) : Int)] enter59 rfl rfl rfl (keyr_any vb X (i + 20) _ (hb.below sb6) (by omega) hXl) ?_
    rintro _ wk ⟨rfl, bek⟩
    have bqk := bq6.on bek
    have bpk := bp6.on bek
    have sbk := sb6.trans (bek.mono sb6.size)
    refine ⟨_, rfl, ?_⟩
    refine WL.field rfl rfl rfl (f30_2 q 0 _) ?_
    obtain ⟨w7, s7, bq7, f7⟩ := stHdK bqk k6 (cutB X (i + 20) 32) (cutB_len (by omega))
    refine WL.store rfl rfl rfl s7 ?_
    have bp7 := bpk.fx f7 (fun e => hne e)
    have sb7 := sbk.trans (f7.low (by omega) sbk.size)
    have k7 : Hd.ok ⟨cutB X i 16, numB (cutB X (i + 16) 4), cutB X (i + 20) 32, 0, 0⟩ := ⟨cutB_len (by omega), numc_lt, cutB_len (by omega), Hd.z_ok.p, Hd.z_ok.n⟩
    refine WL.done ?_
    refine EW.on ?_
    refine EW.seq ?_
    refine EW.region ?_
    first | refine WL.move rfl rfl rfl ?_
    first | refine WL.move rfl rfl rfl ?_
    refine WL.bin rfl rfl rfl rfl (int_add (c := ((i + 52 : Nat) : Int)) (by rw [IntKind.wrap_i64]; omega) _ _ _) ?_
    first | refine WL.move rfl rfl rfl ?_
    refine WL.bin rfl rfl rfl rfl (int_add (c := ((i + 56 : Nat) : Int)) (by rw [IntKind.wrap_i64]; omega) _ _ _) ?_
    refine WL.slice2 rfl rfl rfl rfl rfl (by rw [sl22]; exact hb.cutLH (i + 52) (i + 56) (by omega) (by omega) _) ?_
    refine WL.call [cutV vb (i + 52) (i + 56)] enter60 rfl rfl rfl (value_any _ (cutB X (i + 52) 4) _ (by have h := (hb.below sb7).cut (i + 52) (i + 56) (by omega) (by omega); rw [show i + 56 - (i + 52) = 4 by omega] at h; exact h) (by rw [cutB_len (by omega)]; exact Nat.le_refl _)) ?_
    rintro _ wz ⟨rfl, hz⟩
    rw [hz]
    clear hz
    refine ⟨_, rfl, ?_⟩
    refine WL.field rfl rfl rfl (f30_3 q 0 _) ?_
    obtain ⟨w8, s8, bq8, f8⟩ := stHdP bq7 k7 (numB (cutB X (i + 52) 4))
    refine WL.store rfl rfl rfl s8 ?_
    have bp8 := bp7.fx f8 (fun e => hne e)
    have sb8 := sb7.trans (f8.low (by omega) sb7.size)
    have k8 : Hd.ok ⟨cutB X i 16, numB (cutB X (i + 16) 4), cutB X (i + 20) 32, numB (cutB X (i + 52) 4), 0⟩ := ⟨cutB_len (by omega), numc_lt, cutB_len (by omega), numc_lt, Hd.z_ok.n⟩
    refine WL.done ?_
    refine EW.on ?_
    refine EW.seq ?_
    refine EW.region ?_
    first | refine WL.move rfl rfl rfl ?_
    first | refine WL.move rfl rfl rfl ?_
    refine WL.bin rfl rfl rfl rfl (int_add (c := ((i + 56 : Nat) : Int)) (by rw [IntKind.wrap_i64]; omega) _ _ _) ?_
    first | refine WL.move rfl rfl rfl ?_
    refine WL.bin rfl rfl rfl rfl (int_add (c := ((i + 60 : Nat) : Int)) (by rw [IntKind.wrap_i64]; omega) _ _ _) ?_
    refine WL.slice2 rfl rfl rfl rfl rfl (by rw [sl22]; exact hb.cutLH (i + 56) (i + 60) (by omega) (by omega) _) ?_
    refine WL.call [cutV vb (i + 56) (i + 60)] enter60 rfl rfl rfl (value_any _ (cutB X (i + 56) 4) _ (by have h := (hb.below sb8).cut (i + 56) (i + 60) (by omega) (by omega); rw [show i + 60 - (i + 56) = 4 by omega] at h; exact h) (by rw [cutB_len (by omega)]; exact Nat.le_refl _)) ?_
    rintro _ wz ⟨rfl, hz⟩
    rw [hz]
    clear hz
    refine ⟨_, rfl, ?_⟩
    refine WL.field rfl rfl rfl (f30_4 q 0 _) ?_
    obtain ⟨w9, s9, bq9, f9⟩ := stHdN bq8 k8 (numB (cutB X (i + 56) 4))
    refine WL.store rfl rfl rfl s9 ?_
    have bp9 := bp8.fx f9 (fun e => hne e)
    have sb9 := sb8.trans (f9.low (by omega) sb8.size)
    have k9 : Hd.ok ⟨cutB X i 16, numB (cutB X (i + 16) 4), cutB X (i + 20) 32, numB (cutB X (i + 52) 4), numB (cutB X (i + 56) 4)⟩ := ⟨cutB_len (by omega), numc_lt, cutB_len (by omega), numc_lt, numc_lt⟩
    refine WL.done ?_
    refine EW.on ?_
    refine EW.seq ?_
    refine EW.region ?_
    refine WL.load rfl rfl rfl (ldHd (h := hdD X i) bq9 k9) ?_
    obtain ⟨we, se, bpe, fe⟩ := bp9.stA (o := 0) (a := []) (b := []) (m := Hd.z.cs) (ty := 30) (vs := (hdD X i).cs) (i30 k9) (hdD X i).one (by simp) rfl (by rw [Hd.len Hd.z_ok, Hd.len (h := hdD X i) k9])
    refine WL.store rfl rfl rfl se ?_
    refine WL.done ?_
    refine EW.on ?_
    refine EW.ret ?_
    refine EW.returnsC Try.results61 rfl bpe Try.underlying30 rfl (by simpa using i30 (h := hdD X i) k9) ⟨by simp [Hd.v], sb9.trans (fe.low (by omega) sb9.size)⟩
end Go.Proofs.Ytobfebpinkikdaa
